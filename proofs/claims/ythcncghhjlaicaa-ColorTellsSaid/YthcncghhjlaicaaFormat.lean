/- What color.Format answers to any value. -/
import Derived.Test.YthcncghhjlaicaaParse
import Derived.Laws.IdiomStrings
import Derived.Lib.SmallJoins
import Derived.Deep.RegionLawGrows
import Derived.Deep.RegionHeld3
namespace Go.Proofs.Ythcncghhjlaicaa.Lab
open Go.RowKit

abbrev HEX : ByteArray := ⟨#[48, 49, 50, 51, 52, 53, 54, 55, 56, 57, 97, 98, 99, 100, 101, 102]⟩
def hexC (n : Nat) : UInt8 := if n < 10 then UInt8.ofNat (48 + n) else UInt8.ofNat (87 + n)
def hex4 (n : Nat) : List UInt8 := [hexC (n / 4096), hexC (n / 256 % 16), hexC (n / 16 % 16), hexC (n % 16)]
def formL (x y z : Nat) : List UInt8 := [114, 103, 98, 58] ++ hex4 x ++ [47] ++ hex4 y ++ [47] ++ hex4 z

theorem and15 (n : Nat) (h : n < 65536) : bits BinOp.and IntKind.u16 (n : Int) 15 = ((n % 16 : Nat) : Int) := by
  have e : (15 : Int) = ((15 : Nat) : Int) := rfl
  rw [e, u16_and_nat n 15 h (by omega), show (15 : Nat) = 2 ^ 4 - 1 from rfl, Nat.and_two_pow_sub_one_eq_mod]

theorem hex_at (n : Nat) (h : n < 16) (hb : n < (⟨#[48, 49, 50, 51, 52, 53, 54, 55, 56, 57, 97, 98, 99, 100, 101, 102]⟩ : ByteArray).size) : (⟨#[48, 49, 50, 51, 52, 53, 54, 55, 56, 57, 97, 98, 99, 100, 101, 102]⟩ : ByteArray)[n] = hexC n := by
  obtain rfl | rfl | rfl | rfl | rfl | rfl | rfl | rfl | rfl | rfl | rfl | rfl | rfl | rfl | rfl | rfl : n = 0 ∨ n = 1 ∨ n = 2 ∨ n = 3 ∨ n = 4 ∨ n = 5 ∨ n = 6 ∨ n = 7 ∨ n = 8 ∨ n = 9 ∨ n = 10 ∨ n = 11 ∨ n = 12 ∨ n = 13 ∨ n = 14 ∨ n = 15 := by omega
  all_goals rfl

theorem hex_of {i : Int} (n : Nat) (h : n < 16) (e : i = (n : Int)) : ∀ hb : i.toNat < (⟨#[48, 49, 50, 51, 52, 53, 54, 55, 56, 57, 97, 98, 99, 100, 101, 102]⟩ : ByteArray).size, (⟨#[48, 49, 50, 51, 52, 53, 54, 55, 56, 57, 97, 98, 99, 100, 101, 102]⟩ : ByteArray)[i.toNat] = hexC n := by
  subst e
  exact fun hb => hex_at n h hb

theorem step_append_own {P : Program} {ops : Array Oper} {o : Oper} {a : Act} {w : World} {K : Act → World → Prop} {Q : Exit → Act → World → Prop} {E : Prop}
    (hg : o.guard = none) (s x : Operand) (t : TypeId) (hop : o.op = Op.call { callee := Callee.builtin Builtin.append, args := #[s, x], argTypes := #[t, t] })
    (base : Nat) (e : TypeId) (i : TypeInfo) (z : Value) (size bytes : Nat) (h1 : P.underlying t = some (.slice e)) (h2 : P.info? e = some i) (h3 : i.zero = some z) (h4 : i.size = size) (h5 : i.bytes = bytes) (h6 : z.cells.size = size) (h7 : 0 < size)
    (v : Value) (n : Nat) (xs : List Value) (hs : a.eval s = v) (hown : w.ownsRow base e size v n xs)
    (ad : Addr) (m c : Nat) (news : List Value) (hx : a.eval x = .slice (some ad) m c) (hn : news.length = m * size) (hc : ∀ j u, news[j]? = some u → w.cell? (ad.add j) = some u) (h1c : ∀ u ∈ news, u.oneCell' = true)
    (b1 : n + m ≤ maxLen) (b2 : (n + m) * bytes ≤ 140737488355328) (hb : base ≤ w.heap.size)
    (hK : ∀ v' w', w'.ownsRow base e size v' (n + m) (xs ++ news) → w.grownBy w' v.ownBlock → K (a.put o.dst v') w') :
    if Region.wanted o (yielded ops a.tmps) = true then Oper.wp P o a w K Q else E := by
  have hw : Region.wanted o (yielded ops a.tmps) = true := by simp [Region.wanted, hg]
  rw [if_pos hw]
  obtain ⟨v', w', hrun, r1, r2, _⟩ := run_append_own (P := P) w base t o.type e i z size bytes h1 h2 h3 h4 h5 h6 h7 v n xs hown ad m c news hn hc h1c b1 b2 hb
  unfold Oper.wp
  simp [execOp, hop, resolve, invoke, builtin, hs, hx, hrun, Result.andThen]
  exact hK v' w' r1 r2

theorem infoU8 : (Try.prog.info? 5).map (fun i => (i.zero, i.size, i.bytes)) = some (some (.int .u8 0), 1, 1) := by kernel_rfl

def bytesV (l : List UInt8) : List Value := l.map fun b => .int .u8 (b.toNat : Nat)

theorem new_cells (w : World) (l : List Value) (T : TypeId) (n : Nat) (hn : n = w.heap.size) : ∀ j u, l[j]? = some u → (w.alloc (.cells l.toArray T)).cell? ((⟨n, 0, none⟩ : Addr).add j) = some u := by
  intro j u hj
  have hp : (⟨n, 0, none⟩ : Addr).add j = ⟨n, 0 + j, none⟩ := by unfold Addr.add; split <;> simp_all
  rw [hp, Nat.zero_add, World.cell?_alloc_at _ _ _ _ hn, List.getElem?_toArray]
  exact hj

theorem old_cells (w : World) (l : List Value) (T : TypeId) (fr : Nat × Nat) (n : Nat) (hn : n = w.heap.size) (o : Obj) : ∀ j u, l[j]? = some u → ((w.alloc (.cells l.toArray T fr)).alloc o).cell? ((⟨n, 0, none⟩ : Addr).add j) = some u := by
  intro j u hj
  have hp : (⟨n, 0, none⟩ : Addr).add j = ⟨n, 0 + j, none⟩ := by unfold Addr.add; split <;> simp_all
  rw [hp, Nat.zero_add, World.cell?_alloc_past _ _ _ (by subst hn; simp), Joins.cell_alloc_mark_at _ _ _ _ _ _ hn, List.getElem?_toArray]
  exact hj

theorem one_bytes {l : List Value} (h : ∀ u ∈ l, ∃ n : Int, u = .int .u8 n) : ∀ u ∈ l, u.oneCell' = true := by
  intro u hu
  obtain ⟨n, rfl⟩ := h u hu
  rfl

abbrev part5 (c : Int) (x : Nat) : List Value := [.int .u8 c, .int .u8 ((hexC (x / 4096)).toNat : Nat), .int .u8 ((hexC (x / 256 % 16)).toNat : Nat), .int .u8 ((hexC (x / 16 % 16)).toNat : Nat), .int .u8 ((hexC (x % 16)).toNat : Nat)]

theorem part5_one (c : Int) (x : Nat) : ∀ u ∈ part5 c x, u.oneCell' = true := one_bytes (by intro u hu; simp at hu; obtain rfl | rfl | rfl | rfl | rfl := hu <;> exact ⟨_, rfl⟩)

theorem form_cells (x y z : Nat) : [.int .u8 114, .int .u8 103, .int .u8 98] ++ part5 58 x ++ part5 47 y ++ part5 47 z = bytesV (formL x y z) := rfl

theorem own_str {w : World} {base g cap : Nat} {l : List UInt8} {n : Nat} (hn : l.length = n) (h : w.ownsRow base 5 1 (.slice (some ⟨g, 0, none⟩) n cap) n (bytesV l)) :
    (convert 31 9 (.slice (some ⟨g, 0, none⟩) n cap)).run Try.prog w = .ok (.string ⟨l.toArray⟩) w := by
  subst hn
  refine run_convert_bytes_back w 31 9 5 ⟨g, 0, none⟩ cap l Try.underlying31 Try.underlying5 Try.underlying9 fun j hj => ?_
  exact h.cells (g := g) rfl j _ (by rw [bytesV, List.getElem?_map, List.getElem?_eq_getElem hj]; rfl)

set_option maxHeartbeats 4000000 in
theorem format_any (x y z : Nat) (hx : x < 65536) (hy : y < 65536) (hz : z < 65536) (w : World) :
    Calls Try.prog 7 #[val x y z] w fun e w' => e = .returned (.string (bs (formL x y z))) ∧ Below w.heap.size w w' := by
  have kc := Joins.run_convert_bytes_const_at (P := Try.prog) (w.alloc (.cells #[.int .u16 x, .int .u16 y, .int .u16 z] 35)) 31 5 #[.int .u8 114, .int .u8 103, .int .u8 98] 3 3 (w.heap.size + 1) (by simp) Try.underlying31 Try.underlying5
  have i0 : ∀ w, (Instr.index 35 (.agg #[.int .u16 x, .int .u16 y, .int .u16 z]) (.int .i64 0)).run Try.prog w = .ok (.int .u16 x) w := fun _ => by kernel_rfl
  have i1 : ∀ w, (Instr.index 35 (.agg #[.int .u16 x, .int .u16 y, .int .u16 z]) (.int .i64 1)).run Try.prog w = .ok (.int .u16 y) w := fun _ => by kernel_rfl
  have i2 : ∀ w, (Instr.index 35 (.agg #[.int .u16 x, .int .u16 y, .int .u16 z]) (.int .i64 2)).run Try.prog w = .ok (.int .u16 z) w := fun _ => by kernel_rfl
  obtain ⟨ib, hi, hz0, hz1, hz2⟩ := info_parts infoU8
  go_enter Try.func7, Try.ntmps7
  go_wp2
  refine wp_loop_rounds 4 ?_
  rw [rounds_succ]
  have g1 := hex_of (i := (x : Int) / 4096) (x / 4096) (by omega) (by omega)
  have g2 := hex_of (i := (x : Int) / 256 % 16) (x / 256 % 16) (by omega) (by omega)
  have g3 := hex_of (i := (x : Int) / 16 % 16) (x / 16 % 16) (by omega) (by omega)
  have g4 := hex_of (i := (x : Int) % 16) (x % 16) (by omega) (by omega)
  have e2 : bits BinOp.and IntKind.u16 ((x : Int) / 256) 15 = (x : Int) / 256 % 16 := by rw [show ((x : Int) / 256) = ((x / 256 : Nat) : Int) from by omega, and15 _ (by omega)]; omega
  have e3 : bits BinOp.and IntKind.u16 ((x : Int) / 16) 15 = (x : Int) / 16 % 16 := by rw [show ((x : Int) / 16) = ((x / 16 : Nat) : Int) from by omega, and15 _ (by omega)]; omega
  have e4 : bits BinOp.and IntKind.u16 (x : Int) 15 = (x : Int) % 16 := by rw [and15 _ hx]; omega
  obtain ⟨b11, b12⟩ : (0 : Int) ≤ (x : Int) / 4096 ∧ (x : Int) / 4096 < 16 := by omega
  obtain ⟨b21, b22⟩ : (0 : Int) ≤ (x : Int) / 256 % 16 ∧ (x : Int) / 256 % 16 < 16 := by omega
  obtain ⟨b31, b32⟩ : (0 : Int) ≤ (x : Int) / 16 % 16 ∧ (x : Int) / 16 % 16 < 16 := by omega
  obtain ⟨b41, b42⟩ : (0 : Int) ≤ (x : Int) % 16 ∧ (x : Int) % 16 < 16 := by omega
  go_wp2
  refine wp_region_held_drew (S := fun _ => True) (by kernel_rfl) True.intro (fun hHeld => ?_)
  refine wpAnyH_take (i := 0) (v := ?_) rfl (by kernel_rfl) (by kernel_rfl) (by kernel_rfl) (fun _ _ _ h => h) (Or.inl ⟨by rfl, ?_⟩) True.intro ?_
  rotate_left
  · intro w hSw
    go_simp
    try with_reducible rfl
  simp only [Act.put]
  refine wpAnyH_take (i := 1) (v := ?_) rfl (by kernel_rfl) (by kernel_rfl) (by kernel_rfl) (fun _ _ _ h => h) (Or.inl ⟨by rfl, ?_⟩) True.intro ?_
  rotate_left
  · intro w hSw
    go_simp
    try with_reducible rfl
  simp only [Act.put]
  refine wpAnyH_take (i := 2) (v := ?_) rfl (by kernel_rfl) (by kernel_rfl) (by kernel_rfl) (fun _ _ _ h => h) (Or.inl ⟨by rfl, ?_⟩) True.intro ?_
  rotate_left
  · intro w hSw
    go_simp
    try with_reducible rfl
  simp only [Act.put]
  refine wpAnyH_take (i := 3) (v := ?_) rfl (by kernel_rfl) (by kernel_rfl) (by kernel_rfl) (fun _ _ _ h => h) (Or.inl ⟨by rfl, ?_⟩) True.intro ?_
  rotate_left
  · intro w hSw
    go_simp
    try with_reducible rfl
  simp only [Act.put]
  refine wpAnyH_take (i := 4) (v := ?_) rfl (by kernel_rfl) (by kernel_rfl) (by kernel_rfl) (fun _ _ _ h => h) (Or.inl ⟨by rfl, ?_⟩) True.intro ?_
  rotate_left
  · intro w hSw
    go_simp
    try with_reducible rfl
  simp only [Act.put]
  refine wpAnyH_take (i := 5) (v := ?_) rfl (by kernel_rfl) (by kernel_rfl) (by kernel_rfl) (fun _ _ _ h => h) (Or.inl ⟨by rfl, ?_⟩) True.intro ?_
  rotate_left
  · intro w hSw
    go_simp
    try with_reducible rfl
  simp only [Act.put]
  refine wpAnyH_take (i := 6) (v := ?_) rfl (by kernel_rfl) (by kernel_rfl) (by kernel_rfl) (fun _ _ _ h => h) (Or.inl ⟨by rfl, ?_⟩) True.intro ?_
  rotate_left
  · intro w hSw
    go_simp
    try with_reducible rfl
  simp only [Act.put]
  refine wpAnyH_take (i := 7) (v := ?_) rfl (by kernel_rfl) (by kernel_rfl) (by kernel_rfl) (fun _ _ _ h => h) (Or.inl ⟨by rfl, ?_⟩) True.intro ?_
  rotate_left
  · intro w hSw
    go_simp
    try with_reducible rfl
  simp only [Act.put]
  refine wpAnyH_take (i := 8) (v := ?_) rfl (by kernel_rfl) (by kernel_rfl) (by kernel_rfl) (fun _ _ _ h => h) (Or.inl ⟨by rfl, ?_⟩) True.intro ?_
  rotate_left
  · intro w hSw
    go_simp
    try with_reducible rfl
  simp only [Act.put]
  refine wpAnyH_take (i := 9) (v := ?_) rfl (by kernel_rfl) (by kernel_rfl) (by kernel_rfl) (fun _ _ _ h => h) (Or.inl ⟨by rfl, ?_⟩) True.intro ?_
  rotate_left
  · intro w hSw
    go_simp
    try with_reducible rfl
  simp only [Act.put]
  refine wpAnyH_take (i := 10) (v := ?_) rfl (by kernel_rfl) (by kernel_rfl) (by kernel_rfl) (fun _ _ _ h => h) (Or.inl ⟨by rfl, ?_⟩) True.intro ?_
  rotate_left
  · intro w hSw
    go_simp
    try with_reducible rfl
  simp only [Act.put]
  refine wpAnyH_take (i := 11) (v := ?_) rfl (by kernel_rfl) (by kernel_rfl) (by kernel_rfl) (fun _ _ _ h => h) (Or.inl ⟨by rfl, ?_⟩) True.intro ?_
  rotate_left
  · intro w hSw
    go_simp
    try with_reducible rfl
  simp only [Act.put]
  refine wpAnyH_take (i := 12) (v := ?_) rfl (by kernel_rfl) (by kernel_rfl) (by kernel_rfl) (fun _ _ _ h => h) (Or.inl ⟨by rfl, ?_⟩) True.intro ?_
  rotate_left
  · intro w hSw
    go_simp
    try with_reducible rfl
  simp only [Act.put]
  refine wpAnyH_take (i := 13) (v := ?_) rfl (by kernel_rfl) (by kernel_rfl) (by kernel_rfl) (fun _ _ _ h => h) (Or.inl ⟨by rfl, ?_⟩) True.intro ?_
  rotate_left
  · intro w hSw
    go_simp
    try with_reducible rfl
  simp only [Act.put]
  refine wpAnyH_take (i := 14) (v := ?_) rfl (by kernel_rfl) (by kernel_rfl) (by kernel_rfl) (fun _ _ _ h => h) (Or.inl ⟨by rfl, ?_⟩) True.intro ?_
  rotate_left
  · intro w hSw
    go_simp
    try with_reducible rfl
  simp only [Act.put]
  refine wpAnyH_take (i := 15) (v := ?_) rfl (by kernel_rfl) (by kernel_rfl) (by kernel_rfl) (fun _ _ _ h => h) (Or.inl ⟨by rfl, ?_⟩) True.intro ?_
  rotate_left
  · intro w hSw
    go_simp
    try with_reducible rfl
  simp only [Act.put]
  refine wpAnyH_ready (rs := [16]) (by kernel_rfl) (by simp) ?_
  refine AllReadyH.cons rfl (fun K hK => ?_) AllReadyH.nil
  go_simp
  refine hK.out _ _ True.intro (fun hHeld => ?_)
  clear hK K hHeld
  refine wpAnyH_ready (rs := [17]) (by kernel_rfl) (by simp) ?_
  refine AllReadyH.cons rfl (fun K hK => ?_) AllReadyH.nil
  (refine step_append_grows rfl (.tmp 13) (.tmp 29) 31 rfl 5 ib (.int .u8 0) 1 1 Try.underlying31 hi hz0 hz1 hz2 rfl (by decide) (some ⟨w.heap.size + 1, 0, none⟩) 3 3 [.int .u8 114, .int .u8 103, .int .u8 98] (by simp [Act.eval]) (by intro h; cases h) rfl (by intro b hb; cases hb; exact old_cells _ _ _ _ _ (by simp) _) ⟨w.heap.size + 1 + 1, 0, none⟩ 5 5 (part5 58 x) (by simp [Act.eval]) rfl (new_cells _ _ _ _ (by simp)) (part5_one _ _) (by omega) (by unfold maxLen; omega) (by omega) ?_; intro v1 w1 own1 grow1)
  refine hK.out _ _ True.intro (fun hHeld => ?_)
  clear hK K hHeld
  simp only [Act.put]
  have O1 := Lib.hid (Joins.ownsRow_le (base' := w.heap.size) own1 (by simp; omega))
  have B1 := Lib.hid (Below.grown (((((Below.refl w.heap.size w).alloc (Nat.le_refl _) _).alloc (by simp) _).alloc (by simp; omega) _).drew) grow1 (by simp; omega) (by intro k hk; cases hk))
  clear own1 grow1
  refine wpAnyH_ready (rs := [18]) (by kernel_rfl) (by simp) ?_
  refine AllReadyH.cons rfl (fun K hK => ?_) AllReadyH.nil
  go_simp
  refine hK.out _ _ True.intro (fun hHeld => ?_)
  clear hK K hHeld
  refine wpAnyH_done (by kernel_rfl) ?_ _
  clear g1 g2 g3 g4 e2 e3 e4 b11 b12 b21 b22 b31 b32 b41 b42
  have g1 := hex_of (i := (y : Int) / 4096) (y / 4096) (by omega) (by omega)
  have g2 := hex_of (i := (y : Int) / 256 % 16) (y / 256 % 16) (by omega) (by omega)
  have g3 := hex_of (i := (y : Int) / 16 % 16) (y / 16 % 16) (by omega) (by omega)
  have g4 := hex_of (i := (y : Int) % 16) (y % 16) (by omega) (by omega)
  have e2 : bits BinOp.and IntKind.u16 ((y : Int) / 256) 15 = (y : Int) / 256 % 16 := by rw [show ((y : Int) / 256) = ((y / 256 : Nat) : Int) from by omega, and15 _ (by omega)]; omega
  have e3 : bits BinOp.and IntKind.u16 ((y : Int) / 16) 15 = (y : Int) / 16 % 16 := by rw [show ((y : Int) / 16) = ((y / 16 : Nat) : Int) from by omega, and15 _ (by omega)]; omega
  have e4 : bits BinOp.and IntKind.u16 (y : Int) 15 = (y : Int) % 16 := by rw [and15 _ hy]; omega
  obtain ⟨b11, b12⟩ : (0 : Int) ≤ (y : Int) / 4096 ∧ (y : Int) / 4096 < 16 := by omega
  obtain ⟨b21, b22⟩ : (0 : Int) ≤ (y : Int) / 256 % 16 ∧ (y : Int) / 256 % 16 < 16 := by omega
  obtain ⟨b31, b32⟩ : (0 : Int) ≤ (y : Int) / 16 % 16 ∧ (y : Int) / 16 % 16 < 16 := by omega
  obtain ⟨b41, b42⟩ : (0 : Int) ≤ (y : Int) % 16 ∧ (y : Int) % 16 < 16 := by omega
  go_wp2
  rw [rounds_succ]
  go_wp2
  refine wp_region_held_drew (S := fun _ => True) (by kernel_rfl) True.intro (fun hHeld => ?_)
  refine wpAnyH_take (i := 0) (v := ?_) rfl (by kernel_rfl) (by kernel_rfl) (by kernel_rfl) (fun _ _ _ h => h) (Or.inl ⟨by rfl, ?_⟩) True.intro ?_
  rotate_left
  · intro w hSw
    go_simp
    try with_reducible rfl
  simp only [Act.put]
  refine wpAnyH_take (i := 1) (v := ?_) rfl (by kernel_rfl) (by kernel_rfl) (by kernel_rfl) (fun _ _ _ h => h) (Or.inl ⟨by rfl, ?_⟩) True.intro ?_
  rotate_left
  · intro w hSw
    go_simp
    try with_reducible rfl
  simp only [Act.put]
  refine wpAnyH_take (i := 2) (v := ?_) rfl (by kernel_rfl) (by kernel_rfl) (by kernel_rfl) (fun _ _ _ h => h) (Or.inl ⟨by rfl, ?_⟩) True.intro ?_
  rotate_left
  · intro w hSw
    go_simp
    try with_reducible rfl
  simp only [Act.put]
  refine wpAnyH_take (i := 3) (v := ?_) rfl (by kernel_rfl) (by kernel_rfl) (by kernel_rfl) (fun _ _ _ h => h) (Or.inl ⟨by rfl, ?_⟩) True.intro ?_
  rotate_left
  · intro w hSw
    go_simp
    try with_reducible rfl
  simp only [Act.put]
  refine wpAnyH_take (i := 4) (v := ?_) rfl (by kernel_rfl) (by kernel_rfl) (by kernel_rfl) (fun _ _ _ h => h) (Or.inl ⟨by rfl, ?_⟩) True.intro ?_
  rotate_left
  · intro w hSw
    go_simp
    try with_reducible rfl
  simp only [Act.put]
  refine wpAnyH_take (i := 5) (v := ?_) rfl (by kernel_rfl) (by kernel_rfl) (by kernel_rfl) (fun _ _ _ h => h) (Or.inl ⟨by rfl, ?_⟩) True.intro ?_
  rotate_left
  · intro w hSw
    go_simp
    try with_reducible rfl
  simp only [Act.put]
  refine wpAnyH_take (i := 6) (v := ?_) rfl (by kernel_rfl) (by kernel_rfl) (by kernel_rfl) (fun _ _ _ h => h) (Or.inl ⟨by rfl, ?_⟩) True.intro ?_
  rotate_left
  · intro w hSw
    go_simp
    try with_reducible rfl
  simp only [Act.put]
  refine wpAnyH_take (i := 7) (v := ?_) rfl (by kernel_rfl) (by kernel_rfl) (by kernel_rfl) (fun _ _ _ h => h) (Or.inl ⟨by rfl, ?_⟩) True.intro ?_
  rotate_left
  · intro w hSw
    go_simp
    try with_reducible rfl
  simp only [Act.put]
  refine wpAnyH_take (i := 8) (v := ?_) rfl (by kernel_rfl) (by kernel_rfl) (by kernel_rfl) (fun _ _ _ h => h) (Or.inl ⟨by rfl, ?_⟩) True.intro ?_
  rotate_left
  · intro w hSw
    go_simp
    try with_reducible rfl
  simp only [Act.put]
  refine wpAnyH_take (i := 9) (v := ?_) rfl (by kernel_rfl) (by kernel_rfl) (by kernel_rfl) (fun _ _ _ h => h) (Or.inl ⟨by rfl, ?_⟩) True.intro ?_
  rotate_left
  · intro w hSw
    go_simp
    try with_reducible rfl
  simp only [Act.put]
  refine wpAnyH_take (i := 10) (v := ?_) rfl (by kernel_rfl) (by kernel_rfl) (by kernel_rfl) (fun _ _ _ h => h) (Or.inl ⟨by rfl, ?_⟩) True.intro ?_
  rotate_left
  · intro w hSw
    go_simp
    try with_reducible rfl
  simp only [Act.put]
  refine wpAnyH_take (i := 11) (v := ?_) rfl (by kernel_rfl) (by kernel_rfl) (by kernel_rfl) (fun _ _ _ h => h) (Or.inl ⟨by rfl, ?_⟩) True.intro ?_
  rotate_left
  · intro w hSw
    go_simp
    try with_reducible rfl
  simp only [Act.put]
  refine wpAnyH_take (i := 12) (v := ?_) rfl (by kernel_rfl) (by kernel_rfl) (by kernel_rfl) (fun _ _ _ h => h) (Or.inl ⟨by rfl, ?_⟩) True.intro ?_
  rotate_left
  · intro w hSw
    go_simp
    try with_reducible rfl
  simp only [Act.put]
  refine wpAnyH_take (i := 13) (v := ?_) rfl (by kernel_rfl) (by kernel_rfl) (by kernel_rfl) (fun _ _ _ h => h) (Or.inl ⟨by rfl, ?_⟩) True.intro ?_
  rotate_left
  · intro w hSw
    go_simp
    try with_reducible rfl
  simp only [Act.put]
  refine wpAnyH_take (i := 14) (v := ?_) rfl (by kernel_rfl) (by kernel_rfl) (by kernel_rfl) (fun _ _ _ h => h) (Or.inl ⟨by rfl, ?_⟩) True.intro ?_
  rotate_left
  · intro w hSw
    go_simp
    try with_reducible rfl
  simp only [Act.put]
  refine wpAnyH_take (i := 15) (v := ?_) rfl (by kernel_rfl) (by kernel_rfl) (by kernel_rfl) (fun _ _ _ h => h) (Or.inl ⟨by rfl, ?_⟩) True.intro ?_
  rotate_left
  · intro w hSw
    go_simp
    try with_reducible rfl
  simp only [Act.put]
  refine wpAnyH_ready (rs := [16]) (by kernel_rfl) (by simp) ?_
  refine AllReadyH.cons rfl (fun K hK => ?_) AllReadyH.nil
  go_simp
  refine hK.out _ _ True.intro (fun hHeld => ?_)
  clear hK K hHeld
  refine wpAnyH_ready (rs := [17]) (by kernel_rfl) (by simp) ?_
  refine AllReadyH.cons rfl (fun K hK => ?_) AllReadyH.nil
  (refine step_append_own rfl (.tmp 13) (.tmp 29) 31 rfl w.heap.size 5 ib (.int .u8 0) 1 1 Try.underlying31 hi hz0 hz1 hz2 rfl (by decide) v1 8 _ (by simp [Act.eval]) ((O1.out).alloc _) ⟨w1.heap.size, 0, none⟩ 5 5 (part5 47 y) (by simp [Act.eval]) rfl (new_cells _ _ _ _ rfl) (part5_one _ _) (by unfold maxLen; omega) (by omega) (by have := B1.out.size; simp; omega) ?_; intro v2 w2 own2 grow2)
  refine hK.out _ _ True.intro (fun hHeld => ?_)
  clear hK K hHeld
  simp only [Act.put]
  have O2 := Lib.hid (show w2.ownsRow w.heap.size 5 1 v2 13 _ from own2)
  have B2 := Lib.hid (Below.grown (((B1.out).alloc B1.out.size _).drew) grow2 (by have := B1.out.size; simp; omega) (fun k hk => (O1.out.lt k hk).1))
  clear own2 grow2
  refine wpAnyH_ready (rs := [18]) (by kernel_rfl) (by simp) ?_
  refine AllReadyH.cons rfl (fun K hK => ?_) AllReadyH.nil
  go_simp
  refine hK.out _ _ True.intro (fun hHeld => ?_)
  clear hK K hHeld
  refine wpAnyH_done (by kernel_rfl) ?_ _
  clear g1 g2 g3 g4 e2 e3 e4 b11 b12 b21 b22 b31 b32 b41 b42
  have g1 := hex_of (i := (z : Int) / 4096) (z / 4096) (by omega) (by omega)
  have g2 := hex_of (i := (z : Int) / 256 % 16) (z / 256 % 16) (by omega) (by omega)
  have g3 := hex_of (i := (z : Int) / 16 % 16) (z / 16 % 16) (by omega) (by omega)
  have g4 := hex_of (i := (z : Int) % 16) (z % 16) (by omega) (by omega)
  have e2 : bits BinOp.and IntKind.u16 ((z : Int) / 256) 15 = (z : Int) / 256 % 16 := by rw [show ((z : Int) / 256) = ((z / 256 : Nat) : Int) from by omega, and15 _ (by omega)]; omega
  have e3 : bits BinOp.and IntKind.u16 ((z : Int) / 16) 15 = (z : Int) / 16 % 16 := by rw [show ((z : Int) / 16) = ((z / 16 : Nat) : Int) from by omega, and15 _ (by omega)]; omega
  have e4 : bits BinOp.and IntKind.u16 (z : Int) 15 = (z : Int) % 16 := by rw [and15 _ hz]; omega
  obtain ⟨b11, b12⟩ : (0 : Int) ≤ (z : Int) / 4096 ∧ (z : Int) / 4096 < 16 := by omega
  obtain ⟨b21, b22⟩ : (0 : Int) ≤ (z : Int) / 256 % 16 ∧ (z : Int) / 256 % 16 < 16 := by omega
  obtain ⟨b31, b32⟩ : (0 : Int) ≤ (z : Int) / 16 % 16 ∧ (z : Int) / 16 % 16 < 16 := by omega
  obtain ⟨b41, b42⟩ : (0 : Int) ≤ (z : Int) % 16 ∧ (z : Int) % 16 < 16 := by omega
  go_wp2
  rw [rounds_succ]
  go_wp2
  refine wp_region_held_drew (S := fun _ => True) (by kernel_rfl) True.intro (fun hHeld => ?_)
  refine wpAnyH_take (i := 0) (v := ?_) rfl (by kernel_rfl) (by kernel_rfl) (by kernel_rfl) (fun _ _ _ h => h) (Or.inl ⟨by rfl, ?_⟩) True.intro ?_
  rotate_left
  · intro w hSw
    go_simp
    try with_reducible rfl
  simp only [Act.put]
  refine wpAnyH_take (i := 1) (v := ?_) rfl (by kernel_rfl) (by kernel_rfl) (by kernel_rfl) (fun _ _ _ h => h) (Or.inl ⟨by rfl, ?_⟩) True.intro ?_
  rotate_left
  · intro w hSw
    go_simp
    try with_reducible rfl
  simp only [Act.put]
  refine wpAnyH_take (i := 2) (v := ?_) rfl (by kernel_rfl) (by kernel_rfl) (by kernel_rfl) (fun _ _ _ h => h) (Or.inl ⟨by rfl, ?_⟩) True.intro ?_
  rotate_left
  · intro w hSw
    go_simp
    try with_reducible rfl
  simp only [Act.put]
  refine wpAnyH_take (i := 3) (v := ?_) rfl (by kernel_rfl) (by kernel_rfl) (by kernel_rfl) (fun _ _ _ h => h) (Or.inl ⟨by rfl, ?_⟩) True.intro ?_
  rotate_left
  · intro w hSw
    go_simp
    try with_reducible rfl
  simp only [Act.put]
  refine wpAnyH_take (i := 4) (v := ?_) rfl (by kernel_rfl) (by kernel_rfl) (by kernel_rfl) (fun _ _ _ h => h) (Or.inl ⟨by rfl, ?_⟩) True.intro ?_
  rotate_left
  · intro w hSw
    go_simp
    try with_reducible rfl
  simp only [Act.put]
  refine wpAnyH_take (i := 5) (v := ?_) rfl (by kernel_rfl) (by kernel_rfl) (by kernel_rfl) (fun _ _ _ h => h) (Or.inl ⟨by rfl, ?_⟩) True.intro ?_
  rotate_left
  · intro w hSw
    go_simp
    try with_reducible rfl
  simp only [Act.put]
  refine wpAnyH_take (i := 6) (v := ?_) rfl (by kernel_rfl) (by kernel_rfl) (by kernel_rfl) (fun _ _ _ h => h) (Or.inl ⟨by rfl, ?_⟩) True.intro ?_
  rotate_left
  · intro w hSw
    go_simp
    try with_reducible rfl
  simp only [Act.put]
  refine wpAnyH_take (i := 7) (v := ?_) rfl (by kernel_rfl) (by kernel_rfl) (by kernel_rfl) (fun _ _ _ h => h) (Or.inl ⟨by rfl, ?_⟩) True.intro ?_
  rotate_left
  · intro w hSw
    go_simp
    try with_reducible rfl
  simp only [Act.put]
  refine wpAnyH_take (i := 8) (v := ?_) rfl (by kernel_rfl) (by kernel_rfl) (by kernel_rfl) (fun _ _ _ h => h) (Or.inl ⟨by rfl, ?_⟩) True.intro ?_
  rotate_left
  · intro w hSw
    go_simp
    try with_reducible rfl
  simp only [Act.put]
  refine wpAnyH_take (i := 9) (v := ?_) rfl (by kernel_rfl) (by kernel_rfl) (by kernel_rfl) (fun _ _ _ h => h) (Or.inl ⟨by rfl, ?_⟩) True.intro ?_
  rotate_left
  · intro w hSw
    go_simp
    try with_reducible rfl
  simp only [Act.put]
  refine wpAnyH_take (i := 10) (v := ?_) rfl (by kernel_rfl) (by kernel_rfl) (by kernel_rfl) (fun _ _ _ h => h) (Or.inl ⟨by rfl, ?_⟩) True.intro ?_
  rotate_left
  · intro w hSw
    go_simp
    try with_reducible rfl
  simp only [Act.put]
  refine wpAnyH_take (i := 11) (v := ?_) rfl (by kernel_rfl) (by kernel_rfl) (by kernel_rfl) (fun _ _ _ h => h) (Or.inl ⟨by rfl, ?_⟩) True.intro ?_
  rotate_left
  · intro w hSw
    go_simp
    try with_reducible rfl
  simp only [Act.put]
  refine wpAnyH_take (i := 12) (v := ?_) rfl (by kernel_rfl) (by kernel_rfl) (by kernel_rfl) (fun _ _ _ h => h) (Or.inl ⟨by rfl, ?_⟩) True.intro ?_
  rotate_left
  · intro w hSw
    go_simp
    try with_reducible rfl
  simp only [Act.put]
  refine wpAnyH_take (i := 13) (v := ?_) rfl (by kernel_rfl) (by kernel_rfl) (by kernel_rfl) (fun _ _ _ h => h) (Or.inl ⟨by rfl, ?_⟩) True.intro ?_
  rotate_left
  · intro w hSw
    go_simp
    try with_reducible rfl
  simp only [Act.put]
  refine wpAnyH_take (i := 14) (v := ?_) rfl (by kernel_rfl) (by kernel_rfl) (by kernel_rfl) (fun _ _ _ h => h) (Or.inl ⟨by rfl, ?_⟩) True.intro ?_
  rotate_left
  · intro w hSw
    go_simp
    try with_reducible rfl
  simp only [Act.put]
  refine wpAnyH_take (i := 15) (v := ?_) rfl (by kernel_rfl) (by kernel_rfl) (by kernel_rfl) (fun _ _ _ h => h) (Or.inl ⟨by rfl, ?_⟩) True.intro ?_
  rotate_left
  · intro w hSw
    go_simp
    try with_reducible rfl
  simp only [Act.put]
  refine wpAnyH_ready (rs := [16]) (by kernel_rfl) (by simp) ?_
  refine AllReadyH.cons rfl (fun K hK => ?_) AllReadyH.nil
  go_simp
  refine hK.out _ _ True.intro (fun hHeld => ?_)
  clear hK K hHeld
  refine wpAnyH_ready (rs := [17]) (by kernel_rfl) (by simp) ?_
  refine AllReadyH.cons rfl (fun K hK => ?_) AllReadyH.nil
  (refine step_append_own rfl (.tmp 13) (.tmp 29) 31 rfl w.heap.size 5 ib (.int .u8 0) 1 1 Try.underlying31 hi hz0 hz1 hz2 rfl (by decide) v2 13 _ (by simp [Act.eval]) ((O2.out).alloc _) ⟨w2.heap.size, 0, none⟩ 5 5 (part5 47 z) (by simp [Act.eval]) rfl (new_cells _ _ _ _ rfl) (part5_one _ _) (by unfold maxLen; omega) (by omega) (by have := B2.out.size; simp; omega) ?_; intro v3 w3 own3 grow3)
  refine hK.out _ _ True.intro (fun hHeld => ?_)
  clear hK K hHeld
  simp only [Act.put]
  have O3 := Lib.hid (show w3.ownsRow w.heap.size 5 1 v3 18 _ from own3)
  have B3 := Lib.hid (Below.grown (((B2.out).alloc B2.out.size _).drew) grow3 (by have := B2.out.size; simp; omega) (fun k hk => (O2.out.lt k hk).1))
  clear own3 grow3
  refine wpAnyH_ready (rs := [18]) (by kernel_rfl) (by simp) ?_
  refine AllReadyH.cons rfl (fun K hK => ?_) AllReadyH.nil
  go_simp
  refine hK.out _ _ True.intro (fun hHeld => ?_)
  clear hK K hHeld
  refine wpAnyH_done (by kernel_rfl) ?_ _
  clear g1 g2 g3 g4 e2 e3 e4 b11 b12 b21 b22 b31 b32 b41 b42
  obtain ⟨g, cap, rfl⟩ := Joins.ownsRow_form O3.out (by omega)
  have hr := own_str (n := 18) (l := formL x y z) rfl O3.out
  go_wp2
  rw [rounds_succ]
  go_wp2
  go_ret
  exact ⟨rfl, B3.out⟩
end Go.Proofs.Ythcncghhjlaicaa.Lab
