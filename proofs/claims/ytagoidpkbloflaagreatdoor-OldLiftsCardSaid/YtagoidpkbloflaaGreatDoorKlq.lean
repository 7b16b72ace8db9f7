import Derived.WalkKit
import Derived.RegionTactic
import Derived.Deep.RegionHeld3
import Derived.Lib.Hide
import Derived.Below
import Derived.Handy
namespace Go.Proofs.YtagoidpkbloflaaGreatDoor
open Go.RowKit
theorem sp {P : Program} {md : Region.Mode} {ops : Array Oper} {Q : Exit → Act → World → Prop} {S : World → Prop} {fuel : Nat} {L : Array Bool} {a a' : Act} {w : World} (h : wpAnyH P md ops Q S fuel L a' w)
    (ha : a = a' := by ((try simp only [Act.put, List.getElem_toArray, List.getElem_cons_zero, List.getElem_cons_succ, List.setIfInBounds_toArray, List.set_cons_zero, List.set_cons_succ]); rfl)) : wpAnyH P md ops Q S fuel L a w := by
  subst ha
  exact h
theorem tkO {P : Program} {md : Region.Mode} {ops : Array Oper} {Q : Exit → Act → World → Prop} {S : World → Prop} (i : Nat) {oi : Oper} {v : Value} {fuel : Nat} {listed : Array Bool} {a a' : Act} {w : World}
    (h : wpAnyH P md ops Q S fuel (listed.setIfInBounds i true) a' w) (hi : ops[i]? = some oi := by rfl) (hs : Region.noSelect ops = true := by kernel_rfl) (hf : Region.free md ops listed i = true := by kernel_rfl)
    (hr : (Region.ready md ops listed).contains i = true := by kernel_rfl) (hw : Region.wanted oi (yielded ops a.tmps) = true := by rfl)
    (hy : ∀ w, S w → (execOp a.eval oi).run P w = .ok (.value v) w := by (intro W hSw; (try dsimp only at hSw); go_simp; all_goals (with_reducible rfl)))
    (hQ : ∀ c a w, Q (.panic c) (a.put oi.dst v) w → Q (.panic c) a w := by exact fun _ _ _ h => h) (hS : S w := by assumption)
    (ha : a.put oi.dst v = a' := by ((try simp only [Act.put, List.getElem_toArray, List.getElem_cons_zero, List.getElem_cons_succ, List.setIfInBounds_toArray, List.set_cons_zero, List.set_cons_succ]); rfl)) : wpAnyH P md ops Q S (fuel + 1) listed a w := by
  subst ha
  exact wpAnyH_take hi hs hf hr hQ (.inl ⟨hw, hy⟩) hS h
theorem Db : type_of% @Nat.le_refl := @Nat.le_refl
theorem Dc : type_of% @bodyPost_ret := @bodyPost_ret
theorem Dd : type_of% @cell_of_row := @cell_of_row
theorem De : type_of% @heap_setCell_same := @heap_setCell_same
theorem Df : type_of% @List.length_append := @List.length_append
theorem Dg : type_of% @heap_alloc_new := @heap_alloc_new
theorem Dh : type_of% @IntWalk.i64_in := @IntWalk.i64_in
theorem Di : type_of% @List.getElem?_eq_getElem := @List.getElem?_eq_getElem
theorem Dj : type_of% @List.length_drop := @List.length_drop
theorem Dk : type_of% @AllReadyH.cons := @AllReadyH.cons
theorem Dl : type_of% @Nat.le_trans := @Nat.le_trans
theorem Dm : type_of% @wpAnyH_ready := @wpAnyH_ready
theorem Dn : type_of% @AllReadyH.nil := @AllReadyH.nil
theorem Do : type_of% @List.getElem?_eq_some_iff := @List.getElem?_eq_some_iff
theorem Dp : type_of% @And.intro := @And.intro
theorem Dq : type_of% @Nat.le_succ := @Nat.le_succ
theorem Dr : type_of% @Option.some.inj := @Option.some.inj
theorem Ds : type_of% @Nat.zero_le := @Nat.zero_le
theorem Dt : type_of% @World.ownsRow.kept := @World.ownsRow.kept
theorem Du : type_of% @Nat.lt_succ_self := @Nat.lt_succ_self
theorem Dv : type_of% @Nat.lt_of_lt_of_le := @Nat.lt_of_lt_of_le
theorem Dw : type_of% @Array.getElem?_modify := @Array.getElem?_modify
theorem Dx : type_of% @decide_eq_false := @decide_eq_false
theorem Dy : type_of% @List.drop_drop := @List.drop_drop
theorem Dz : type_of% @Prod.mk.injEq := @Prod.mk.injEq
theorem DA : type_of% @List.drop_eq_getElem_cons := @List.drop_eq_getElem_cons
theorem DB : type_of% @List.mem_of_getElem? := @List.mem_of_getElem?
theorem DC : type_of% @World.cell?_alloc_lt := @World.cell?_alloc_lt
theorem DD : type_of% @List.drop_eq_nil_of_le := @List.drop_eq_nil_of_le
theorem DE : type_of% @World.size_alloc := @World.size_alloc
theorem DF : type_of% @Array.getElem?_eq_some_iff := @Array.getElem?_eq_some_iff
theorem DG : type_of% @Nat.le_of_lt := @Nat.le_of_lt
theorem DH : type_of% @ByteArray.size_append := @ByteArray.size_append
theorem DI : type_of% @IntWalk.u64_in := @IntWalk.u64_in
theorem DJ : type_of% @ByteArray.size_extract := @ByteArray.size_extract
theorem DK : type_of% @List.length_take := @List.length_take
theorem DL : type_of% @List.take_of_length_le := @List.take_of_length_le
theorem DM : type_of% @List.length_cons := @List.length_cons
theorem DN : type_of% @List.getD_eq_getElem?_getD := @List.getD_eq_getElem?_getD
theorem DO : type_of% @wpList_store_row := @wpList_store_row
theorem DP : type_of% @wpOp_step := @wpOp_step
theorem DQ : type_of% @World.ownsRow.lt := @World.ownsRow.lt
theorem DR : type_of% @run_callFunc_extern := @run_callFunc_extern
theorem DS : type_of% @Int.eq_ofNat_of_zero_le := @Int.eq_ofNat_of_zero_le
theorem DT : type_of% @NoPanic.normal := @NoPanic.normal
theorem DU : type_of% @info_parts := @info_parts
theorem DV : type_of% @List.append_nil := @List.append_nil
theorem DW : type_of% @leaves_cons := @leaves_cons
theorem DX : type_of% @decide_eq_true := @decide_eq_true
theorem DY : type_of% @Nat.zero_add := @Nat.zero_add
theorem DZ : type_of% @wpAnyH_done := @wpAnyH_done
theorem E0 : type_of% @List.length_eq_zero_iff := @List.length_eq_zero_iff
theorem E1 : type_of% @Option.some.injEq := @Option.some.injEq
theorem E2 : type_of% @Int.toNat_natCast := @Int.toNat_natCast
theorem E3 : type_of% @List.append_assoc := @List.append_assoc
theorem E4 : type_of% @List.drop_zero := @List.drop_zero
theorem E5 : type_of% @World.grownBy_alloc := @World.grownBy_alloc
theorem E6 : type_of% @wp_region_noPanic := @wp_region_noPanic
theorem E7 : type_of% @List.nil_append := @List.nil_append
theorem E8 : type_of% @List.take_succ_eq_append_getElem := @List.take_succ_eq_append_getElem
theorem E9 : type_of% @List.length_map := @List.length_map
theorem Ea : type_of% @wp_region_held_drew := @wp_region_held_drew
theorem Eb : type_of% @Nat.pow_succ := @Nat.pow_succ
theorem Ec : type_of% @rounds_succ := @rounds_succ
theorem Ed : type_of% @Nat.lt_of_succ_lt := @Nat.lt_of_succ_lt
theorem Ee : type_of% @wpAnyH_take := @wpAnyH_take
theorem Ef : type_of% @List.mem_append := @List.mem_append
theorem Eg : type_of% @Nat.lt_or_ge := @Nat.lt_or_ge
theorem Eh : type_of% @heap_setCell_other := @heap_setCell_other
theorem Ei : type_of% @decide_eq_false_iff_not := @decide_eq_false_iff_not
theorem Ej : type_of% @World.ownsRow.cellAt := @World.ownsRow.cellAt
theorem Ek : type_of% @List.mem_singleton := @List.mem_singleton
theorem El : type_of% @List.drop_of_length_le := @List.drop_of_length_le
theorem Em : type_of% @heap_alloc2_new := @heap_alloc2_new
theorem En : type_of% @List.map_append := @List.map_append
theorem Eo : type_of% @decide_eq_true_eq := @decide_eq_true_eq
theorem Ep : type_of% @Array.getElem?_eq_none := @Array.getElem?_eq_none
theorem Eq : type_of% @Addr.mk.injEq := @Addr.mk.injEq
theorem Er : type_of% @World.cell?_setCell_other := @World.cell?_setCell_other
theorem Es : type_of% @Nat.mul_comm := @Nat.mul_comm
theorem Et : type_of% @List.mem_cons := @List.mem_cons
theorem Eu : type_of% @List.mem_cons_of_mem := @List.mem_cons_of_mem
theorem Ev : type_of% @World.ownsRow_nil := @World.ownsRow_nil
theorem Ew : type_of% @ByteArray.toList_eq := @ByteArray.toList_eq
theorem Ex : type_of% @Nat.xor_assoc := @Nat.xor_assoc
theorem Ey : type_of% @Value.slice.inj := @Value.slice.inj
theorem Ez : type_of% @List.take_add := @List.take_add
theorem EA : type_of% @wp_loop_rounds := @wp_loop_rounds
theorem EB : type_of% @beq_eq_false_iff_ne := @beq_eq_false_iff_ne
theorem EC : type_of% @List.take_append_getElem := @List.take_append_getElem
theorem ED : type_of% @UInt8.toNat_inj := @UInt8.toNat_inj
theorem EE : type_of% @List.take_append_drop := @List.take_append_drop
theorem EF : type_of% @World.frozen?_alloc_old := @World.frozen?_alloc_old
theorem EG : type_of% @List.flatten_cons := @List.flatten_cons
theorem EH : type_of% @Sum.inr.injEq := @Sum.inr.injEq
theorem EI : type_of% @World.ownsRow.alloc := @World.ownsRow.alloc
theorem EJ : type_of% @List.length_pos_iff := @List.length_pos_iff
theorem EK : type_of% @Value.slice.injEq := @Value.slice.injEq
theorem EL : type_of% @Bool.and_eq_true := @Bool.and_eq_true
theorem EM : type_of% @List.getElem_cons_zero := @List.getElem_cons_zero
theorem EN : type_of% @List.getElem_cons_succ := @List.getElem_cons_succ
theorem EO : type_of% @List.mem_cons_self := @List.mem_cons_self
theorem EP : type_of% @List.getElem?_take_of_lt := @List.getElem?_take_of_lt
theorem EQ : type_of% @List.getElem?_append_left := @List.getElem?_append_left
theorem ER : type_of% @List.getElem?_map := @List.getElem?_map
theorem ES : type_of% @List.take_length := @List.take_length
theorem ET : type_of% @World.cell?_setCell_same := @World.cell?_setCell_same
theorem EU : type_of% @List.setIfInBounds_toArray := @List.setIfInBounds_toArray
theorem EV : type_of% @List.take_succ_cons := @List.take_succ_cons
theorem EW : type_of% @run_convert_bytes_back := @run_convert_bytes_back
theorem EX : type_of% @Nat.div_div_eq_div_mul := @Nat.div_div_eq_div_mul
theorem EY : type_of% @List.getElem?_append_right := @List.getElem?_append_right
