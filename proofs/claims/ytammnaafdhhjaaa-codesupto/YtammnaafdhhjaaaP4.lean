/- Ytammnaafdhhjaaa: a record's bytes, without the sum. -/
import Derived.Test.YtammnaafdhhjaaaJP2
import Derived.Test.YtammnaafdhhjaaaW8
namespace Go.Proofs.Ytammnaafdhhjaaa
open Go.RowKit

/-- What a row from a world's end on turns is nothing of that world. -/
theorem Put.low {w0 w w' : World} {v v' : Value} {l l0 : List UInt8} (hp : Put w0.heap.size w w' v v' l) (ho : Own w0.heap.size w v l0) (g : w0.grownBy w none) : w0.grownBy w' none :=
  ⟨hp.g.os.trans g.os, hp.g.tape.trans g.tape, hp.g.output.trans g.output, Nat.le_trans g.size hp.g.size, fun k hk _ => by
    have hz := g.size
    rw [hp.g.block k (by omega) (fun e => by have := (ho.lt k e.symm).1; omega), g.block k hk (by simp)]⟩

set_option maxHeartbeats 400000 in
theorem putItems_any (w0 : World) (v : Value) (l : List UInt8) (is : List It) (vi : Value) (w : World) (hown : Own w0.heap.size w v l) (g0 : w0.grownBy w none) (hl : l.length ≤ 500000) (hn : is.length ≤ 16) (hi : LiesI w0 vi is) (hok : ∀ i ∈ is, ItOk i) :
    Calls Try.prog 57 #[v, vi] w fun e w' => ∃ v', e = .returned v' ∧ Put w0.heap.size w w' v v' (l ++ eIts is) := by
  obtain ⟨a, c, rfl, hx⟩ := hi
  by_cases hp : 0 < is.length
  · obtain ⟨g, off, rfl, hc⟩ := hx hp
    have hg : g < w0.heap.size := by
      have := hc 0 _ (by rw [show (0 : Nat) = 4 * 0 + 0 from rfl, flat_at4 is 0 0 hp (by omega)]; rfl)
      exact World.block_lt_of_cell? w0 _ this
    exact putItems_x w0.heap.size v l is g off c w hown g0.size hl hn hp (fun j u hu => g0.cell (hc j u hu) (by simp)) (fun e => by have := (hown.lt g e).1; omega) hok
  · have e0 : is = [] := List.eq_nil_of_length_eq_zero (by omega)
    subst e0
    have HO := Hid.mk' hown
    have hz := g0.size
    clear hx hn hp hok hown g0
    show Calls Try.prog 57 #[v, .slice a 0 c] w _
    go_enter Try.func57, Try.ntmps57
    go_wp2_with (at_builtin; refine wp_app8 rfl _ _ rfl w0.heap.size _ l rfl (HO.out.alloc _) ⟨w.heap.size, 0, none⟩ 1 1 [u8 0] rfl rfl ?c1 ?c2 ?c3 ?c4)
    case c1 => exact cells_u8 w [u8 0] _ rfl _ rfl
    case c2 => omega
    case c3 => simp; omega
    case c4 =>
    intro v1 w1 p1
    go_wp2_with fail
    refine wp_loop_rounds 1 ?_
    rw [rounds_succ]
    go_wp2
    go_ret
    exact ⟨v1, rfl, p1.pre (World.grownBy_alloc _ _ _)⟩

set_option maxHeartbeats 400000 in
theorem putOutbox_any (w0 : World) (v : Value) (l : List UInt8) (is : List En) (vi : Value) (w : World) (hown : Own w0.heap.size w v l) (g0 : w0.grownBy w none) (hl : l.length ≤ 500000) (hn : is.length ≤ 8) (hi : LiesE w0 vi is) (hok : ∀ i ∈ is, EnOk i) :
    Calls Try.prog 58 #[v, vi] w fun e w' => ∃ v', e = .returned v' ∧ Put w0.heap.size w w' v v' (l ++ eEns is) := by
  obtain ⟨a, c, rfl, hx⟩ := hi
  by_cases hp : 0 < is.length
  · obtain ⟨g, off, rfl, hc⟩ := hx hp
    have hg : g < w0.heap.size := by
      have := hc 0 _ (by rw [show (0 : Nat) = 5 * 0 + 0 from rfl, flat_at5 is 0 0 hp (by omega)]; rfl)
      exact World.block_lt_of_cell? w0 _ this
    exact putOutbox_x w0.heap.size v l is g off c w hown g0.size hl hn hp (fun j u hu => g0.cell (hc j u hu) (by simp)) (fun e => by have := (hown.lt g e).1; omega) hok
  · have e0 : is = [] := List.eq_nil_of_length_eq_zero (by omega)
    subst e0
    have HO := Hid.mk' hown
    have hz := g0.size
    clear hx hn hp hok hown g0
    show Calls Try.prog 58 #[v, .slice a 0 c] w _
    go_enter Try.func58, Try.ntmps58
    go_wp2_with (at_builtin; refine wp_app8 rfl _ _ rfl w0.heap.size _ l rfl (HO.out.alloc _) ⟨w.heap.size, 0, none⟩ 1 1 [u8 0] rfl rfl ?c1 ?c2 ?c3 ?c4)
    case c1 => exact cells_u8 w [u8 0] _ rfl _ rfl
    case c2 => omega
    case c3 => simp; omega
    case c4 =>
    intro v1 w1 p1
    go_wp2_with fail
    refine wp_loop_rounds 1 ?_
    rw [rounds_succ]
    go_wp2
    go_ret
    exact ⟨v1, rfl, p1.pre (World.grownBy_alloc _ _ _)⟩

/-- The bytes ahead of the sum. -/
def body (r : Rc) : List UInt8 :=
  if r.kind = 1 then [u8 1] ++ eIt r.it
  else if r.kind = 2 then [u8 2] ++ ([u8 r.it.sh] ++ n2 r.it.nu)
  else if r.kind = 4 ∨ r.kind = 7 then [u8 r.kind] ++ n2 r.seq ++ eIt r.it
  else if r.kind = 5 ∨ r.kind = 8 then [u8 r.kind] ++ n2 r.seq
  else if r.kind = 6 then [u8 6] ++ eMk r.mks ++ eIts r.items ++ eEns r.outs
  else [u8 r.kind]
/-- What putRecord leaves. -/
def PutPost (w : World) (l : List UInt8) (e : Ending) (w' : World) : Prop := ∃ v', e = .returned v' ∧ Own w.heap.size w' v' l ∧ w.grownBy w' none

set_option maxHeartbeats 2000000 in
theorem putRec_1 (s : Int) (i : It) (m : Mk) (is : List It) (es : List En) (vi vo : Value) (w : World) (hi : LiesI w vi is) (ho : LiesE w vo es) (hk : ItOk i) :
    Calls Try.prog 29 #[.slice none 0 0, rv 1 s i m vi vo] w fun e w' => PutPost w (body ⟨1, s, i, m, is, es⟩) e w' := by
  have HI := Hid.mk' hi
  have HO := Hid.mk' ho
  clear hi ho
  unfold rv
  obtain ⟨ai, ci, rfl, _⟩ := HI.out
  obtain ⟨ao, co, rfl, _⟩ := HO.out
  have hf : Hid (Value.ownBlock (.slice none 0 0) ≠ some w.heap.size) := by show _ ≠ _; simp [Value.ownBlock]
  go_enter Try.func29, Try.ntmps29
  go_wp2_with (at_builtin; refine wp_app8 rfl _ _ rfl w.heap.size _ [] rfl (Own.nil _ _) ⟨w.heap.size + 1, 0, none⟩ 1 1 [u8 1] rfl rfl ?c1 ?c2 ?c3 ?c4)
  case c1 => exact cells_u8 _ [u8 1] _ (by simp) _ rfl
  case c2 => simp
  case c3 => simp; omega
  case c4 =>
  intro v1 w1 p1
  have G1 := Hid.mk' (p1.low (Own.nil _ _) (grownBy_alloc' (World.grownBy_alloc _ _ _) _))
  have y1 := G1.out.size
  have f1 := Hid.mk' (p1.far hf.out (by simp; omega))
  have s1 : w.heap.size < w1.heap.size := by have := p1.g.size; simp at this; omega
  have c1_0 : w1.cell? ⟨w.heap.size, 0, none⟩ = some (.int .i64 1) := p1.keep (by go_simp) hf.out
  have c1_2 : w1.cell? ⟨w.heap.size, 2, none⟩ = some (.int .i64 i.sh) := p1.keep (by go_simp) hf.out
  have c1_3 : w1.cell? ⟨w.heap.size, 3, none⟩ = some (.int .i64 i.nu) := p1.keep (by go_simp) hf.out
  have c1_4 : w1.cell? ⟨w.heap.size, 4, none⟩ = some (.float .f32 i.pl) := p1.keep (by go_simp) hf.out
  have c1_5 : w1.cell? ⟨w.heap.size, 5, none⟩ = some (.float .f32 i.sp) := p1.keep (by go_simp) hf.out
  go_wp2_with fail
  refine Calls.mono (putThing_any w.heap.size v1 ([u8 1]) i _ p1.own y1 (by simp) hk) ?_
  rintro e w2 ⟨v2, rfl, p2⟩
  have G2 := Hid.mk' (p2.low p1.own G1.out)
  have y2 := G2.out.size
  go_wp2_with fail
  go_ret
  refine ⟨v2, rfl, ?_, G2.out⟩
  have E : body ⟨1, s, i, m, is, es⟩ = [u8 1] ++ eIt i := by simp [body]
  rw [E]
  exact p2.own

set_option maxHeartbeats 2000000 in
theorem putRec_2 (s : Int) (i : It) (m : Mk) (is : List It) (es : List En) (vi vo : Value) (w : World) (hi : LiesI w vi is) (ho : LiesE w vo es) (hk : ItOk i) :
    Calls Try.prog 29 #[.slice none 0 0, rv 2 s i m vi vo] w fun e w' => PutPost w (body ⟨2, s, i, m, is, es⟩) e w' := by
  have HI := Hid.mk' hi
  have HO := Hid.mk' ho
  clear hi ho
  unfold rv
  obtain ⟨ai, ci, rfl, _⟩ := HI.out
  obtain ⟨ao, co, rfl, _⟩ := HO.out
  have hf : Hid (Value.ownBlock (.slice none 0 0) ≠ some w.heap.size) := by show _ ≠ _; simp [Value.ownBlock]
  go_enter Try.func29, Try.ntmps29
  go_wp2_with (at_builtin; refine wp_app8 rfl _ _ rfl w.heap.size _ [] rfl (Own.nil _ _) ⟨w.heap.size + 1, 0, none⟩ 1 1 [u8 2] rfl rfl ?c1 ?c2 ?c3 ?c4)
  case c1 => exact cells_u8 _ [u8 2] _ (by simp) _ rfl
  case c2 => simp
  case c3 => simp; omega
  case c4 =>
  intro v1 w1 p1
  have G1 := Hid.mk' (p1.low (Own.nil _ _) (grownBy_alloc' (World.grownBy_alloc _ _ _) _))
  have y1 := G1.out.size
  have f1 := Hid.mk' (p1.far hf.out (by simp; omega))
  have s1 : w.heap.size < w1.heap.size := by have := p1.g.size; simp at this; omega
  have c1_0 : w1.cell? ⟨w.heap.size, 0, none⟩ = some (.int .i64 2) := p1.keep (by go_simp) hf.out
  have c1_2 : w1.cell? ⟨w.heap.size, 2, none⟩ = some (.int .i64 i.sh) := p1.keep (by go_simp) hf.out
  have c1_3 : w1.cell? ⟨w.heap.size, 3, none⟩ = some (.int .i64 i.nu) := p1.keep (by go_simp) hf.out
  go_wp2_with fail
  refine Calls.mono (putID_any w.heap.size v1 ([u8 2]) i.sh i.nu _ p1.own y1 (by simp) hk.a hk.b hk.c hk.d) ?_
  rintro e w2 ⟨v2, rfl, p2⟩
  have G2 := Hid.mk' (p2.low p1.own G1.out)
  have y2 := G2.out.size
  go_wp2_with fail
  go_ret
  refine ⟨v2, rfl, ?_, G2.out⟩
  have E : body ⟨2, s, i, m, is, es⟩ = [u8 2] ++ ([u8 i.sh] ++ n2 i.nu) := by simp [body]
  rw [E]
  exact p2.own

set_option maxHeartbeats 2000000 in
theorem putRec_3 (s : Int) (i : It) (m : Mk) (is : List It) (es : List En) (vi vo : Value) (w : World) (hi : LiesI w vi is) (ho : LiesE w vo es) :
    Calls Try.prog 29 #[.slice none 0 0, rv 3 s i m vi vo] w fun e w' => PutPost w (body ⟨3, s, i, m, is, es⟩) e w' := by
  have HI := Hid.mk' hi
  have HO := Hid.mk' ho
  clear hi ho
  unfold rv
  obtain ⟨ai, ci, rfl, _⟩ := HI.out
  obtain ⟨ao, co, rfl, _⟩ := HO.out
  have hf : Hid (Value.ownBlock (.slice none 0 0) ≠ some w.heap.size) := by show _ ≠ _; simp [Value.ownBlock]
  go_enter Try.func29, Try.ntmps29
  go_wp2_with (at_builtin; refine wp_app8 rfl _ _ rfl w.heap.size _ [] rfl (Own.nil _ _) ⟨w.heap.size + 1, 0, none⟩ 1 1 [u8 3] rfl rfl ?c1 ?c2 ?c3 ?c4)
  case c1 => exact cells_u8 _ [u8 3] _ (by simp) _ rfl
  case c2 => simp
  case c3 => simp; omega
  case c4 =>
  intro v1 w1 p1
  have G1 := Hid.mk' (p1.low (Own.nil _ _) (grownBy_alloc' (World.grownBy_alloc _ _ _) _))
  have y1 := G1.out.size
  have f1 := Hid.mk' (p1.far hf.out (by simp; omega))
  have s1 : w.heap.size < w1.heap.size := by have := p1.g.size; simp at this; omega
  have c1_0 : w1.cell? ⟨w.heap.size, 0, none⟩ = some (.int .i64 3) := p1.keep (by go_simp) hf.out
  go_wp2_with fail
  go_ret
  refine ⟨v1, rfl, ?_, G1.out⟩
  have E : body ⟨3, s, i, m, is, es⟩ = [u8 3] := by simp [body]
  rw [E]
  exact p1.own

set_option maxHeartbeats 2000000 in
theorem putRec_4 (s : Int) (i : It) (m : Mk) (is : List It) (es : List En) (vi vo : Value) (w : World) (hi : LiesI w vi is) (ho : LiesE w vo es) (hs : 0 ≤ s) (hs' : s ≤ 65535) (hk : ItOk i) :
    Calls Try.prog 29 #[.slice none 0 0, rv 4 s i m vi vo] w fun e w' => PutPost w (body ⟨4, s, i, m, is, es⟩) e w' := by
  have HI := Hid.mk' hi
  have HO := Hid.mk' ho
  clear hi ho
  unfold rv
  obtain ⟨ai, ci, rfl, _⟩ := HI.out
  obtain ⟨ao, co, rfl, _⟩ := HO.out
  have hf : Hid (Value.ownBlock (.slice none 0 0) ≠ some w.heap.size) := by show _ ≠ _; simp [Value.ownBlock]
  go_enter Try.func29, Try.ntmps29
  go_wp2_with (at_builtin; refine wp_app8 rfl _ _ rfl w.heap.size _ [] rfl (Own.nil _ _) ⟨w.heap.size + 1, 0, none⟩ 1 1 [u8 4] rfl rfl ?c1 ?c2 ?c3 ?c4)
  case c1 => exact cells_u8 _ [u8 4] _ (by simp) _ rfl
  case c2 => simp
  case c3 => simp; omega
  case c4 =>
  intro v1 w1 p1
  have G1 := Hid.mk' (p1.low (Own.nil _ _) (grownBy_alloc' (World.grownBy_alloc _ _ _) _))
  have y1 := G1.out.size
  have f1 := Hid.mk' (p1.far hf.out (by simp; omega))
  have s1 : w.heap.size < w1.heap.size := by have := p1.g.size; simp at this; omega
  have c1_0 : w1.cell? ⟨w.heap.size, 0, none⟩ = some (.int .i64 4) := p1.keep (by go_simp) hf.out
  have c1_1 : w1.cell? ⟨w.heap.size, 1, none⟩ = some (.int .i64 s) := p1.keep (by go_simp) hf.out
  have c1_2 : w1.cell? ⟨w.heap.size, 2, none⟩ = some (.int .i64 i.sh) := p1.keep (by go_simp) hf.out
  have c1_3 : w1.cell? ⟨w.heap.size, 3, none⟩ = some (.int .i64 i.nu) := p1.keep (by go_simp) hf.out
  have c1_4 : w1.cell? ⟨w.heap.size, 4, none⟩ = some (.float .f32 i.pl) := p1.keep (by go_simp) hf.out
  have c1_5 : w1.cell? ⟨w.heap.size, 5, none⟩ = some (.float .f32 i.sp) := p1.keep (by go_simp) hf.out
  go_wp2_with fail
  refine Calls.mono (putNumber_any w.heap.size v1 ([u8 4]) s _ p1.own y1 (by simp) hs hs') ?_
  rintro e w2 ⟨v2, rfl, p2⟩
  have G2 := Hid.mk' (p2.low p1.own G1.out)
  have y2 := G2.out.size
  have f2 := Hid.mk' (p2.far f1.out s1)
  have s2 : w.heap.size < w2.heap.size := by have := p2.g.size; omega
  have c2_2 : w2.cell? ⟨w.heap.size, 2, none⟩ = some (.int .i64 i.sh) := p2.keep (by go_simp) f1.out
  have c2_3 : w2.cell? ⟨w.heap.size, 3, none⟩ = some (.int .i64 i.nu) := p2.keep (by go_simp) f1.out
  have c2_4 : w2.cell? ⟨w.heap.size, 4, none⟩ = some (.float .f32 i.pl) := p2.keep (by go_simp) f1.out
  have c2_5 : w2.cell? ⟨w.heap.size, 5, none⟩ = some (.float .f32 i.sp) := p2.keep (by go_simp) f1.out
  go_wp2_with fail
  refine Calls.mono (putThing_any w.heap.size v2 ([u8 4] ++ n2 s) i _ p2.own y2 (by simp [n2_len]) hk) ?_
  rintro e w3 ⟨v3, rfl, p3⟩
  have G3 := Hid.mk' (p3.low p2.own G2.out)
  have y3 := G3.out.size
  go_wp2_with fail
  go_ret
  refine ⟨v3, rfl, ?_, G3.out⟩
  have E : body ⟨4, s, i, m, is, es⟩ = [u8 4] ++ n2 s ++ eIt i := by simp [body]
  rw [E]
  exact p3.own

set_option maxHeartbeats 2000000 in
theorem putRec_7 (s : Int) (i : It) (m : Mk) (is : List It) (es : List En) (vi vo : Value) (w : World) (hi : LiesI w vi is) (ho : LiesE w vo es) (hs : 0 ≤ s) (hs' : s ≤ 65535) (hk : ItOk i) :
    Calls Try.prog 29 #[.slice none 0 0, rv 7 s i m vi vo] w fun e w' => PutPost w (body ⟨7, s, i, m, is, es⟩) e w' := by
  have HI := Hid.mk' hi
  have HO := Hid.mk' ho
  clear hi ho
  unfold rv
  obtain ⟨ai, ci, rfl, _⟩ := HI.out
  obtain ⟨ao, co, rfl, _⟩ := HO.out
  have hf : Hid (Value.ownBlock (.slice none 0 0) ≠ some w.heap.size) := by show _ ≠ _; simp [Value.ownBlock]
  go_enter Try.func29, Try.ntmps29
  go_wp2_with (at_builtin; refine wp_app8 rfl _ _ rfl w.heap.size _ [] rfl (Own.nil _ _) ⟨w.heap.size + 1, 0, none⟩ 1 1 [u8 7] rfl rfl ?c1 ?c2 ?c3 ?c4)
  case c1 => exact cells_u8 _ [u8 7] _ (by simp) _ rfl
  case c2 => simp
  case c3 => simp; omega
  case c4 =>
  intro v1 w1 p1
  have G1 := Hid.mk' (p1.low (Own.nil _ _) (grownBy_alloc' (World.grownBy_alloc _ _ _) _))
  have y1 := G1.out.size
  have f1 := Hid.mk' (p1.far hf.out (by simp; omega))
  have s1 : w.heap.size < w1.heap.size := by have := p1.g.size; simp at this; omega
  have c1_0 : w1.cell? ⟨w.heap.size, 0, none⟩ = some (.int .i64 7) := p1.keep (by go_simp) hf.out
  have c1_1 : w1.cell? ⟨w.heap.size, 1, none⟩ = some (.int .i64 s) := p1.keep (by go_simp) hf.out
  have c1_2 : w1.cell? ⟨w.heap.size, 2, none⟩ = some (.int .i64 i.sh) := p1.keep (by go_simp) hf.out
  have c1_3 : w1.cell? ⟨w.heap.size, 3, none⟩ = some (.int .i64 i.nu) := p1.keep (by go_simp) hf.out
  have c1_4 : w1.cell? ⟨w.heap.size, 4, none⟩ = some (.float .f32 i.pl) := p1.keep (by go_simp) hf.out
  have c1_5 : w1.cell? ⟨w.heap.size, 5, none⟩ = some (.float .f32 i.sp) := p1.keep (by go_simp) hf.out
  go_wp2_with fail
  refine Calls.mono (putNumber_any w.heap.size v1 ([u8 7]) s _ p1.own y1 (by simp) hs hs') ?_
  rintro e w2 ⟨v2, rfl, p2⟩
  have G2 := Hid.mk' (p2.low p1.own G1.out)
  have y2 := G2.out.size
  have f2 := Hid.mk' (p2.far f1.out s1)
  have s2 : w.heap.size < w2.heap.size := by have := p2.g.size; omega
  have c2_2 : w2.cell? ⟨w.heap.size, 2, none⟩ = some (.int .i64 i.sh) := p2.keep (by go_simp) f1.out
  have c2_3 : w2.cell? ⟨w.heap.size, 3, none⟩ = some (.int .i64 i.nu) := p2.keep (by go_simp) f1.out
  have c2_4 : w2.cell? ⟨w.heap.size, 4, none⟩ = some (.float .f32 i.pl) := p2.keep (by go_simp) f1.out
  have c2_5 : w2.cell? ⟨w.heap.size, 5, none⟩ = some (.float .f32 i.sp) := p2.keep (by go_simp) f1.out
  go_wp2_with fail
  refine Calls.mono (putThing_any w.heap.size v2 ([u8 7] ++ n2 s) i _ p2.own y2 (by simp [n2_len]) hk) ?_
  rintro e w3 ⟨v3, rfl, p3⟩
  have G3 := Hid.mk' (p3.low p2.own G2.out)
  have y3 := G3.out.size
  go_wp2_with fail
  go_ret
  refine ⟨v3, rfl, ?_, G3.out⟩
  have E : body ⟨7, s, i, m, is, es⟩ = [u8 7] ++ n2 s ++ eIt i := by simp [body]
  rw [E]
  exact p3.own

set_option maxHeartbeats 2000000 in
theorem putRec_5 (s : Int) (i : It) (m : Mk) (is : List It) (es : List En) (vi vo : Value) (w : World) (hi : LiesI w vi is) (ho : LiesE w vo es) (hs : 0 ≤ s) (hs' : s ≤ 65535) :
    Calls Try.prog 29 #[.slice none 0 0, rv 5 s i m vi vo] w fun e w' => PutPost w (body ⟨5, s, i, m, is, es⟩) e w' := by
  have HI := Hid.mk' hi
  have HO := Hid.mk' ho
  clear hi ho
  unfold rv
  obtain ⟨ai, ci, rfl, _⟩ := HI.out
  obtain ⟨ao, co, rfl, _⟩ := HO.out
  have hf : Hid (Value.ownBlock (.slice none 0 0) ≠ some w.heap.size) := by show _ ≠ _; simp [Value.ownBlock]
  go_enter Try.func29, Try.ntmps29
  go_wp2_with (at_builtin; refine wp_app8 rfl _ _ rfl w.heap.size _ [] rfl (Own.nil _ _) ⟨w.heap.size + 1, 0, none⟩ 1 1 [u8 5] rfl rfl ?c1 ?c2 ?c3 ?c4)
  case c1 => exact cells_u8 _ [u8 5] _ (by simp) _ rfl
  case c2 => simp
  case c3 => simp; omega
  case c4 =>
  intro v1 w1 p1
  have G1 := Hid.mk' (p1.low (Own.nil _ _) (grownBy_alloc' (World.grownBy_alloc _ _ _) _))
  have y1 := G1.out.size
  have f1 := Hid.mk' (p1.far hf.out (by simp; omega))
  have s1 : w.heap.size < w1.heap.size := by have := p1.g.size; simp at this; omega
  have c1_0 : w1.cell? ⟨w.heap.size, 0, none⟩ = some (.int .i64 5) := p1.keep (by go_simp) hf.out
  have c1_1 : w1.cell? ⟨w.heap.size, 1, none⟩ = some (.int .i64 s) := p1.keep (by go_simp) hf.out
  go_wp2_with fail
  refine Calls.mono (putNumber_any w.heap.size v1 ([u8 5]) s _ p1.own y1 (by simp) hs hs') ?_
  rintro e w2 ⟨v2, rfl, p2⟩
  have G2 := Hid.mk' (p2.low p1.own G1.out)
  have y2 := G2.out.size
  go_wp2_with fail
  go_ret
  refine ⟨v2, rfl, ?_, G2.out⟩
  have E : body ⟨5, s, i, m, is, es⟩ = [u8 5] ++ n2 s := by simp [body]
  rw [E]
  exact p2.own

set_option maxHeartbeats 2000000 in
theorem putRec_8 (s : Int) (i : It) (m : Mk) (is : List It) (es : List En) (vi vo : Value) (w : World) (hi : LiesI w vi is) (ho : LiesE w vo es) (hs : 0 ≤ s) (hs' : s ≤ 65535) :
    Calls Try.prog 29 #[.slice none 0 0, rv 8 s i m vi vo] w fun e w' => PutPost w (body ⟨8, s, i, m, is, es⟩) e w' := by
  have HI := Hid.mk' hi
  have HO := Hid.mk' ho
  clear hi ho
  unfold rv
  obtain ⟨ai, ci, rfl, _⟩ := HI.out
  obtain ⟨ao, co, rfl, _⟩ := HO.out
  have hf : Hid (Value.ownBlock (.slice none 0 0) ≠ some w.heap.size) := by show _ ≠ _; simp [Value.ownBlock]
  go_enter Try.func29, Try.ntmps29
  go_wp2_with (at_builtin; refine wp_app8 rfl _ _ rfl w.heap.size _ [] rfl (Own.nil _ _) ⟨w.heap.size + 1, 0, none⟩ 1 1 [u8 8] rfl rfl ?c1 ?c2 ?c3 ?c4)
  case c1 => exact cells_u8 _ [u8 8] _ (by simp) _ rfl
  case c2 => simp
  case c3 => simp; omega
  case c4 =>
  intro v1 w1 p1
  have G1 := Hid.mk' (p1.low (Own.nil _ _) (grownBy_alloc' (World.grownBy_alloc _ _ _) _))
  have y1 := G1.out.size
  have f1 := Hid.mk' (p1.far hf.out (by simp; omega))
  have s1 : w.heap.size < w1.heap.size := by have := p1.g.size; simp at this; omega
  have c1_0 : w1.cell? ⟨w.heap.size, 0, none⟩ = some (.int .i64 8) := p1.keep (by go_simp) hf.out
  have c1_1 : w1.cell? ⟨w.heap.size, 1, none⟩ = some (.int .i64 s) := p1.keep (by go_simp) hf.out
  go_wp2_with fail
  refine Calls.mono (putNumber_any w.heap.size v1 ([u8 8]) s _ p1.own y1 (by simp) hs hs') ?_
  rintro e w2 ⟨v2, rfl, p2⟩
  have G2 := Hid.mk' (p2.low p1.own G1.out)
  have y2 := G2.out.size
  go_wp2_with fail
  go_ret
  refine ⟨v2, rfl, ?_, G2.out⟩
  have E : body ⟨8, s, i, m, is, es⟩ = [u8 8] ++ n2 s := by simp [body]
  rw [E]
  exact p2.own

set_option maxHeartbeats 2000000 in
theorem putRec_6 (s : Int) (i : It) (m : Mk) (is : List It) (es : List En) (vi vo : Value) (w : World) (hi : LiesI w vi is) (ho : LiesE w vo es) (hk : MkOk m) (hni : is.length ≤ 16) (hki : ∀ x ∈ is, ItOk x) (hno : es.length ≤ 8) (hko : ∀ x ∈ es, EnOk x) :
    Calls Try.prog 29 #[.slice none 0 0, rv 6 s i m vi vo] w fun e w' => PutPost w (body ⟨6, s, i, m, is, es⟩) e w' := by
  have HI := Hid.mk' hi
  have HO := Hid.mk' ho
  clear hi ho
  unfold rv
  obtain ⟨ai, ci, rfl, _⟩ := HI.out
  obtain ⟨ao, co, rfl, _⟩ := HO.out
  have hf : Hid (Value.ownBlock (.slice none 0 0) ≠ some w.heap.size) := by show _ ≠ _; simp [Value.ownBlock]
  go_enter Try.func29, Try.ntmps29
  go_wp2_with (at_builtin; refine wp_app8 rfl _ _ rfl w.heap.size _ [] rfl (Own.nil _ _) ⟨w.heap.size + 1, 0, none⟩ 1 1 [u8 6] rfl rfl ?c1 ?c2 ?c3 ?c4)
  case c1 => exact cells_u8 _ [u8 6] _ (by simp) _ rfl
  case c2 => simp
  case c3 => simp; omega
  case c4 =>
  intro v1 w1 p1
  have G1 := Hid.mk' (p1.low (Own.nil _ _) (grownBy_alloc' (World.grownBy_alloc _ _ _) _))
  have y1 := G1.out.size
  have f1 := Hid.mk' (p1.far hf.out (by simp; omega))
  have s1 : w.heap.size < w1.heap.size := by have := p1.g.size; simp at this; omega
  have c1_0 : w1.cell? ⟨w.heap.size, 0, none⟩ = some (.int .i64 6) := p1.keep (by go_simp) hf.out
  have c1_6 : w1.cell? ⟨w.heap.size, 6, none⟩ = some (.int .i64 m.g) := p1.keep (by go_simp) hf.out
  have c1_7 : w1.cell? ⟨w.heap.size, 7, none⟩ = some (.int .i64 m.m) := p1.keep (by go_simp) hf.out
  have c1_8 : w1.cell? ⟨w.heap.size, 8, none⟩ = some (.int .i64 m.s) := p1.keep (by go_simp) hf.out
  have c1_9 : w1.cell? ⟨w.heap.size, 9, none⟩ = some (.int .i64 m.a) := p1.keep (by go_simp) hf.out
  have c1_10 : w1.cell? ⟨w.heap.size, 10, none⟩ = some (.int .i64 m.n) := p1.keep (by go_simp) hf.out
  have c1_11 : w1.cell? ⟨w.heap.size, 11, none⟩ = some (.slice ai is.length ci) := p1.keep (by go_simp) hf.out
  have c1_12 : w1.cell? ⟨w.heap.size, 12, none⟩ = some (.slice ao es.length co) := p1.keep (by go_simp) hf.out
  go_wp2_with fail
  refine Calls.mono (putMarks_any w.heap.size v1 ([u8 6]) m _ p1.own y1 (by simp) hk) ?_
  rintro e w2 ⟨v2, rfl, p2⟩
  have G2 := Hid.mk' (p2.low p1.own G1.out)
  have y2 := G2.out.size
  have f2 := Hid.mk' (p2.far f1.out s1)
  have s2 : w.heap.size < w2.heap.size := by have := p2.g.size; omega
  have c2_11 : w2.cell? ⟨w.heap.size, 11, none⟩ = some (.slice ai is.length ci) := p2.keep (by go_simp) f1.out
  have c2_12 : w2.cell? ⟨w.heap.size, 12, none⟩ = some (.slice ao es.length co) := p2.keep (by go_simp) f1.out
  go_wp2_with fail
  refine Calls.mono (putItems_any w v2 ([u8 6] ++ eMk m) is _ _ p2.own G2.out (by simp [eMk_len]) hni HI.out hki) ?_
  rintro e w3 ⟨v3, rfl, p3⟩
  have G3 := Hid.mk' (p3.low p2.own G2.out)
  have y3 := G3.out.size
  have f3 := Hid.mk' (p3.far f2.out s2)
  have s3 : w.heap.size < w3.heap.size := by have := p3.g.size; omega
  have c3_12 : w3.cell? ⟨w.heap.size, 12, none⟩ = some (.slice ao es.length co) := p3.keep (by go_simp) f2.out
  go_wp2_with fail
  refine Calls.mono (putOutbox_any w v3 ([u8 6] ++ eMk m ++ eIts is) es _ _ p3.own G3.out (by simp [eMk_len, eIts_len]; omega) hno HO.out hko) ?_
  rintro e w4 ⟨v4, rfl, p4⟩
  have G4 := Hid.mk' (p4.low p3.own G3.out)
  have y4 := G4.out.size
  go_wp2_with fail
  go_ret
  refine ⟨v4, rfl, ?_, G4.out⟩
  have E : body ⟨6, s, i, m, is, es⟩ = [u8 6] ++ eMk m ++ eIts is ++ eEns es := by simp [body]
  rw [E]
  exact p4.own

end Go.Proofs.Ytammnaafdhhjaaa
