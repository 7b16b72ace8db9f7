import Derived.Test.YtddbpnplbcjpgaaGreatDoorLp13
import Derived.Test.YtddbpnplbcjpgaaGreatDoorRows
import Derived.ChangeVars
import Derived.JoinedOf
import Derived.RowKit
import Derived.LaidLaws
import Derived.LaidHandle
import Derived.Stop.Joined
namespace Go.Proofs.YtddbpnplbcjpgaaGreatDoor
open Go.ChangeShapes Go.WideShapes Go.RowKit
def theLaid : List (String × DataW Unit) := [("errors.errorType", Rows.laid_errors_errorType)]
theorem own:ownKnob Tryz.prog.godebug=none:=by kernel_rfl
theorem laid_et : Tryz.prog.globalNamed "errors.errorType" = some 0 := by kernel_rfl
theorem laid_rt : (Tryz.prog.cutTypes.find? (·.1 == "internal/reflectlite.rtype")).map (·.2) = some 162 := by kernel_rfl
theorem laid_size:Tryz.prog.types.size=264:=by kernel_rfl
theorem laid_oneRow:((List.range 264).filter fun t=>Tryz.prog.rowNamed t [101,114,114,111,114])=[36]:=by kernel_rfl
theorem errT_of_laid {W:World} (h:laidMetH Tryz.prog theLaid W):errT W:=by
 have h':laidMet Tryz.prog [] W∧handlesMet Tryz.prog theLaid W:=h
 obtain ⟨name,u,ty,e1,e2,e3,e4,e5⟩:=h'.2 _ (List.mem_singleton.2 rfl)
 have en:name=[101,114,114,111,114]:=(Option.some.inj e1).symm
 subst en
 obtain rfl:=Option.some.inj (laid_rt.symm.trans e2)
 have hm:ty∈(List.range 264).filter fun t=>Tryz.prog.rowNamed t [101,114,114,111,114]:=List.mem_filter.2 ⟨List.mem_range.2 (by rw [←laid_size];exact e3),e4⟩
 rw [laid_oneRow] at hm
 obtain rfl:=List.mem_singleton.1 hm
 have hh:typeHandle Tryz.prog 36=.pointer (some ⟨5,36,none⟩):=by kernel_rfl
 rw [hh] at e5
 unfold errT
 simpa using World.var?_cell laid_et e5 0
noncomputable def laidWorld (os:Os):World :=
 let w0:=World.holding Tryz.prog os ⟨#[],#[],[]⟩
 { w0 with heap := w0.heap.modify 0 fun
     | .cells _ t frozen=>.cells #[.iface 162 (.agg #[.pointer (some ⟨5,36,none⟩)])] t frozen
     | o=>o }
end Go.Proofs.YtddbpnplbcjpgaaGreatDoor
namespace Go.Proofs.YtddbpnplbcjpgaaGreatDoor
open Go.RowKit Go.Maps
set_option maxRecDepth 100000 in
set_option maxHeartbeats 8000000 in
theorem cells_new (w:World) (R P M m:Nat) (D:DataW Value) (G:ByteArray→Cel) (L:ByteArray→Value) (h:StoIn w R P M m D G L) (hm:m≤100000) (hkb:∀ k,live (G k)=true→k.size≤140737488351232) :
   Calls Tryz.prog 83 #[.pointer (some ⟨P,0,none⟩)] w fun e w'=>∃ v z,e=.returned v∧CellsOf G z∧IsCells w' v z∧Below w.heap.size w w'∧∀ k,v.ownBlock=some k→w.heap.size≤k:=by
 have HW:=Lib.hid h
 have HM:=Lib.hid hm
 have HKB:=Lib.hid hkb
 have p0:w.cell? ⟨P,0,none⟩=some (.map (some M)):=cell_of_row _ _ 0 _ _ _ h.row
 clear h hm hkb
 go_enter Tryz.func83,Tryz.ntmps83
 go_wp2_with (first | (at_range;refine wpList_range_own _ rfl _ 166 rfl 9 105 keyedS2 Tryz.underlying166 cellR M m D rfl HW.out.map ?_;intro w0 hrg0 hg0 hs0) | go_in)
 go_frame
 have HC0:Hid (CellsW w w0 R P M m D G L (Maps.has D) (Maps.size D) [] [] (.slice none 0 0)):=Lib.hid ⟨hrg0,List.nodup_nil,fun k=>by
   rw [HW.out.sto.has k];simp,fun k hk=>by rw [HW.out.sto.has k] at hk;exact hk,ownsC_nil _ _,⟨rfl,fun c hc=>by cases hc⟩,⟨hg0.os,hg0.tape,hg0.output,hg0.size,fun k hk=>hg0.block k hk (by simp)⟩,by
   have:=HW.out.map.size_le;simpa using this,by omega⟩
 clear hrg0 hg0 hs0 p0
 go_loopw [3] (fun v wr=>∃ left cnt ks zs,CellsW w wr R P M m D G L left cnt ks zs v) (fun _ wr=>wr.rangeLeft M w.heap.size)
 case atStart=>exact ⟨_,_,_,_,HC0.out⟩
 case round =>
   obtain ⟨left,cnt,ks,zs,hc⟩:=hrel
   have HC:=Lib.hid hc
   clear hc HC0
   go_wp2_with (first | (at_next;refine wpList_next_ranges _ rfl _ rfl 9 keyedS2 cellR Value.string cvV keyB_inv cellB_inv M w.heap.size m D left cnt rfl HC.out.rng ?_ ?_) | go_in)
   · intro hc0 hl0
     have hmem:∀ k,k∈ks↔live (G k)=true:=fun k=>by rw [HC.out.mem k];simp [hl0]
     have HMEM:=Lib.hid hmem
     clear hc0 hl0 hmem
     rcases HC.out.own.shape with ⟨rfl,hz⟩ | ⟨g,cap,rfl,hgb⟩
     · have hk:ks=[]:=by rw [←HC.out.rows.1,hz];rfl
       have HK:=Lib.hid hk
       clear hz hk
       go_wp2_with (go_at_call 111;refine (sortz_any _ _).mono ?_;rintro e w1 ⟨rfl,rfl⟩)
       go_ret
       obtain ⟨z,h1,h2⟩:=RowsAre.cells (ks':=ks) (v:=.slice none 0 0) HC.out.rows HC.out.nodup (List.Perm.refl _) (by rw [HK.out];exact List.Pairwise.nil) HMEM.out (by rw [HK.out];exact IsCvs.nil _)
       exact ⟨_,z,rfl,h1,h2,HC.out.bel,fun k e=>by cases e⟩
     · have hkl:zs.length=ks.length:=by rw [←HC.out.rows.1,List.length_map]
       have hkz:ks.map (celAtK zs)=zs:=by rw [←HC.out.rows.1];exact celAtK_all (by rw [HC.out.rows.1];exact HC.out.nodup)
       have HKZ:Hid (ownsC wr (w.heap.size + 1) (.slice (some ⟨g,0,none⟩) ks.length cap) (ks.map (celAtK zs))):=Lib.hid (by rw [hkz,←hkl];exact HC.out.own)
       have HKN:Hid (ks.length≤1000000):=Lib.hid (by have:=HC.out.cnt;have:=HM.out;omega)
       have HOW:=Lib.hid HC.out.own
       have HROW:=Lib.hid HC.out.rows
       have HND:=Lib.hid HC.out.nodup
       have HBE:=Lib.hid HC.out.bel
       have HSZ:=Lib.hid HC.out.sz
       have HGB:=Lib.hid hgb
       rw [hkl] at HOW ⊢
       clear hkl hkz HC hgb
       go_wp2_with (go_at_call 111;refine (sort_any 112 cells_cmp cells_eg (celAtK zs) (celAtK_key zs) (celAtK_one HROW.out) ks g cap (w.heap.size + 1) _ HKZ.out HKN.out).mono ?_;rintro e w1 ⟨rfl,ks',hp,hs,hv,hg1⟩;have HX:Hid (ks'.Perm ks∧ks'.Pairwise (fun a b=>leB a b=true)∧IsCvs w1 (.slice (some ⟨g,0,none⟩) ks.length cap) (ks'.map (celAtK zs))∧wr.grownBy w1 (some g)):=Lib.hid ⟨hp,hs,hv,hg1⟩;clear hp hs hv hg1)
       go_ret
       obtain ⟨hp,hs,hv,hg1⟩:=HX.out
       obtain ⟨z,h1,h2⟩:=RowsAre.cells (HROW.out.kept HOW.out hg1) HND.out hp hs HMEM.out hv
       exact ⟨_,z,rfl,h1,h2,below_of_grown2 HBE.out hg1 HSZ.out (fun b e=>by cases e;have:=HGB.out;omega),fun b e=>by have e2:g=b:=Option.some.inj e;have:=HGB.out;omega⟩
   · intro x c kl yd yp w1 cnt1 hkey hlk hv hat hrg1 hlt hg1 hs1 hen
     obtain ⟨hxs,rfl⟩:=keyB_size hkey
     obtain ⟨c',e,hy⟩:=cellR_inv hv
     obtain rfl:=cvV_inj e
     simp only [Prod.mk.injEq] at hy
     obtain ⟨rfl,rfl⟩:=hy
     obtain ⟨hl,rfl⟩:=HW.out.sto.entry hat
     obtain ⟨a,cc,hLx⟩:=(HW.out.own x hl).slice
     rw [hLx] at hen
     have hb1:Below w.heap.size w w1:=below_of_grown2 HC.out.bel hg1 HC.out.sz (fun b e=>by cases e;exact Nat.le_refl _)
     have hen2:(Instr.entry (.pointer (some ⟨w.heap.size,0,none⟩))).run Tryz.prog w1=.ok (.tuple #[.string x,.agg #[.string x,.bool (G x).has,.string (G x).text,.int .i64 (G x).sum,.slice a (G x).list.length cc]]) w1:=hen
     have HLX:Hid (IsTexts w (.slice a (G x).list.length cc) (G x).list):=Lib.hid (by rw [←hLx];exact (HW.out.own x hl).isTexts)
     obtain ⟨t,ht⟩:∃ t,t=(G x).text:=⟨_,rfl⟩
     obtain ⟨hh,hhh⟩:∃ hh,hh=(G x).has:=⟨_,rfl⟩
     obtain ⟨sm,hsm⟩:∃ sm,sm=(G x).sum:=⟨_,rfl⟩
     obtain ⟨ll,hll⟩:∃ ll,ll=(G x).list:=⟨_,rfl⟩
     obtain ⟨n,hn⟩:∃ n,n=(G x).list.length:=⟨_,rfl⟩
     have htx:t.size≤140737488351232:=by rw [ht];exact (HW.out.text x).1
     have htl:∀ q∈ll,q.size≤140737488351232:=by rw [hll];exact (HW.out.text x).2
     have hlm:ll.length≤1000000:=by rw [hll];have:=HW.out.len x;have:=HM.out;omega
     have HEQ:Hid (t=(G x).text∧hh=(G x).has∧sm=(G x).sum∧ll=(G x).list):=Lib.hid ⟨ht,hhh,hsm,hll⟩
     rw [←ht,←hhh,←hsm,←hn] at hen2
     rw [←hn,←hll] at HLX
     have HTL:=Lib.hid htl
     have HB1:=Lib.hid hb1
     have HG1:=Lib.hid hg1
     have HRG1:=Lib.hid hrg1
     have HLT:=Lib.hid hlt
     have HLK:=Lib.hid hlk
     have HL:=Lib.hid hl
     have HS1:=Lib.hid hs1
     have hxs2:x.size≤140737488351232:=HKB.out x HL.out
     clear htl hb1 hg1 hrg1 hlt hlk hl hs1 hen hat hv hkey e hLx ht hhh hsm hll hn
     go_wp2_with fail
     refine (apart_any x t hh sm a n cc ll _ hxs2 htx (HLX.out.below (HB1.out.alloc HB1.out.size _)) hlm HTL.out).mono ?_
     rintro r w3 ⟨u,rfl,ho3,hb3⟩
     obtain ⟨au,cu,rfl⟩:=ho3.slice
     have HO3:=Lib.hid ho3
     have HB3:=Lib.hid hb3
     clear ho3 hb3
     go_wp2_with (first
       | (at_builtin;refine wpList_append_cv rfl _ _ rfl (w.heap.size + 1) u3 zs rfl (cells_own HC.out.own HG1.out HB3.out) w3.heap.size 1 rfl ⟨x,hh,t,sm,.slice au ll.length cu⟩ rfl (MapKept.heap_alloc w3 _).1 (by have:=HC.out.cnt;have:=HC.out.rows.1;have:=HM.out;have h9:=congrArg List.length HC.out.rows.1;rw [List.length_map] at h9;omega) (by have:=HB3.out.size;simp at this ⊢;have:=HS1.out;have:=HC.out.sz;omega) ?_;intro g cap w5 ho5 hg5;have HO5:=Lib.hid ho5;have HG5:=Lib.hid hg5;clear ho5 hg5))
     obtain ⟨rfl,rfl,rfl,rfl⟩:=HEQ.out
     have gA:w1.grownBy (w3.alloc (.cells #[.string x,.bool (G x).has,.string (G x).text,.int .i64 (G x).sum,.slice au (G x).list.length cu] 105)) none:=grown_alloc (grown_then (grown_alloc (grown_refl _ none) _) (grown_of_below HB3.out)) _
     have hco:=cells_own (o2:=.cells #[.string x,.bool (G x).has,.string (G x).text,.int .i64 (G x).sum,.slice au (G x).list.length cu] 105) HC.out.own HG1.out HB3.out
     have hMw:M < w.heap.size:=Nat.lt_of_lt_of_le HW.out.mr HW.out.rw'
     have hr5:=(HRG1.out.kept gA (by simp) (by simp)).kept HG5.out (range_off HC.out.own (by omega)) (range_off HC.out.own (by omega))
     refine ⟨⟨_,cnt1,ks ++ [x],_,⟨hr5,?_,fun k=>?_,fun k hk=>?_,HO5.out,?_,?_,?_,?_⟩⟩,?_⟩
     · rw [List.nodup_append]
       refine ⟨HC.out.nodup,by simp,fun a ha b hb=>?_⟩
       obtain rfl:=List.mem_singleton.1 hb
       rintro rfl
       have:=((HC.out.mem a).1 ha).2
       rw [HLK.out] at this
       cases this
     · rw [List.mem_append,HC.out.mem k,List.mem_singleton]
       by_cases e:k=x
       · subst e
         have hsk:(keyL k).sameKey (keyL k)=true:=by simp [keyL,Lit.sameKey]
         simp [hsk,HL.out]
       · have hsk:(keyL k).sameKey (keyL x)=false:=Maps.sameKey_ne (fun e2=>e (keyL_inj e2))
         simp [hsk,e]
     · simp only [Bool.and_eq_true] at hk
       exact HC.out.lsub k hk.1
     · refine (((HC.out.rows.off HG1.out (Nat.lt_succ_self _)).grown gA).add (ownsS.mono (HO3.out.alloc _) ?_)).kept hco HG5.out
       have:=HB1.out.size
       simp;omega
     · refine below_of_grown2 (below_of_grown2 HB1.out gA (by have:=HS1.out;have:=HC.out.sz;omega) (fun g e=>by cases e)) HG5.out ?_ (fun g e=>by have:=(HC.out.own.lt g e).1;omega)
       have:=gA.size;have:=HS1.out;have:=HC.out.sz;omega
     · have:=HC.out.cnt;have:=HLT.out;rw [List.length_append];simp;omega
     · have:=gA.size;have:=HG5.out.size;have:=HS1.out;have:=HC.out.sz;omega
     · rw [hr5.left_eq,HC.out.rng.left_eq];exact HLT.out
end Go.Proofs.YtddbpnplbcjpgaaGreatDoor
namespace Go.Proofs.YtddbpnplbcjpgaaGreatDoor
open Go.ChangeShapes Go.WideShapes Go.RowKit
def theLaid4 : List (String × DataW Unit) := [("math/bits.deBruijn32tab", Rows.laid_math_bits_deBruijn32tab), ("math/bits.deBruijn64tab", Rows.laid_math_bits_deBruijn64tab), ("internal/strconv.uint64pow10", Rows.laid_internal_strconv_uint64pow10), ("errors.errorType", Rows.laid_errors_errorType)]
def theData : List (String × DataW Unit) := [("math/bits.deBruijn32tab", Rows.laid_math_bits_deBruijn32tab), ("math/bits.deBruijn64tab", Rows.laid_math_bits_deBruijn64tab), ("internal/strconv.uint64pow10", Rows.laid_internal_strconv_uint64pow10)]
theorem errT_of_laid4 {W:World} (h:laidMetH Tryz.prog theLaid4 W):errT W:=by
 have h':laidMet Tryz.prog theData W∧handlesMet Tryz.prog theLaid W:=h
 exact errT_of_laid (show laidMetH Tryz.prog theLaid W from ⟨laidMet_nil _ _,h'.2⟩)
noncomputable def laidWorld4 (os:Os):World :=
 let w0:=laidWorld os
 { w0 with heap := ((w0.heap.modify 3 fun
     | .cells _ t frozen=>.cells ((#[0,1,28,2,29,14,24,3,30,22,20,15,25,17,4,8,31,27,13,23,21,19,16,7,26,12,18,6,11,5,10,9]:Array Int).map (Value.int .u8)) t frozen
     | o=>o).modify 4 fun
     | .cells _ t frozen=>.cells ((#[0,1,56,2,57,49,28,3,61,58,42,50,38,29,17,4,62,47,59,36,45,43,51,22,53,39,33,30,24,18,12,5,63,55,48,27,60,41,37,16,46,35,44,21,52,32,23,11,54,26,40,15,34,20,31,10,25,14,19,9,13,8,7,6]:Array Int).map (Value.int .u8)) t frozen
     | o=>o).modify 2 fun
     | .cells _ t frozen=>.cells ((#[1,10,100,1000,10000,100000,1000000,10000000,100000000,1000000000,10000000000,100000000000,1000000000000,10000000000000,100000000000000,1000000000000000,10000000000000000,100000000000000000,1000000000000000000,10000000000000000000]:Array Int).map (Value.int .u64)) t frozen
     | o=>o }
theorem laidWorld4_met (os:Os) (args:Array Value):laidMetH Tryz.prog theLaid4 ((laidWorld4 os).forCall (fun _ _=>0) ⟨#[],args,[]⟩).memory :=
 laidMetH_of_parts (laidMet_of_run' 8 (by kernel_rfl) (by kernel_rfl)) (by kernel_rfl)
end Go.Proofs.YtddbpnplbcjpgaaGreatDoor
namespace Go.Proofs.YtddbpnplbcjpgaaGreatDoor
open Go.RowKit
theorem tell_nil (w:World):Calls Tryz.prog 42 #[.nilIface] w fun e w'=>e=.returned (.int .i64 0)∧w=w':=by
 go_enter Tryz.func42,Tryz.ntmps42
 go_wp2
 go_ret
 exact ⟨rfl,rfl⟩
theorem errT.alloc {w:World} (h:errT w) (o:Obj):errT (w.alloc o):=by
 unfold errT at h ⊢
 rw [World.cell?_alloc_lt _ _ _ (lt_of_cell h)];exact h
theorem errT.below {w w':World} (h:errT w) (hb:Below w.heap.size w w'):errT w':=by
 unfold errT at h ⊢
 rw [hb.cell (lt_of_cell h)];exact h
theorem asEnd {w w':World} {B:Nat} {e:Int} {old:Value} (hB:B < w.heap.size) (ht0:w.cell? ⟨B,0,none⟩=some old)
   (h:((asWorld w ⟨B,0,none⟩).alloc (.cells #[.int .i64 e] 40)).setCell ⟨B,0,none⟩ (.int .i64 e)=w'):w'.cell? ⟨B,0,none⟩=some (.int .i64 e)∧Below B w w':=by
 subst h
 have hs:(asWorld w ⟨B,0,none⟩).heap.size=w.heap.size + 1 + 1 + 1:=by simp [asWorld]
 have hc:((asWorld w ⟨B,0,none⟩).alloc (.cells #[.int .i64 e] 40)).cell? ⟨B,0,none⟩=some old:=by
   rw [World.cell?_alloc_lt _ _ _ (by rw [hs];show B < _;omega)]
   unfold asWorld
   rw [World.cell?_alloc_lt _ _ _ (by simp;omega),World.cell?_alloc_lt _ _ _ (by simp;omega),World.cell?_alloc_lt _ _ _ hB]
   exact ht0
 refine ⟨World.cell?_setCell_same _ _ _ hc,?_⟩
 refine Below.setCell ?_ (show B≤B from Nat.le_refl _) _
 refine Below.alloc ?_ (by rw [hs];omega) _
 unfold asWorld
 exact (((Below.refl _ _).alloc (by omega) _).alloc (by simp;omega) _).alloc (by simp;omega) _
def isErr (w:World) (v:Value) (e:Int):Prop :=
 v=.iface 40 (.int .i64 e)∨∃ b off pl,v=.iface 114 (.pointer (some ⟨b,off,none⟩))∧w.cell? ⟨b,off,none⟩=some (.int .i64 e)∧w.cell? ⟨b,off + 1,none⟩=some (.int .i64 pl)
theorem as_err (v:Value) (e:Int) (B:Nat) (old:Value) (w:World) (hg:errT w) (hB:B < w.heap.size) (ht0:w.cell? ⟨B,0,none⟩=some old) (hf0:w.frozen? ⟨B,0,none⟩=false) (hv:isErr w v e) :
   Calls Tryz.prog 76 #[v,.iface 137 (.pointer (some ⟨B,0,none⟩))] w fun ev w'=>ev=.returned (.bool true)∧w'.cell? ⟨B,0,none⟩=some (.int .i64 e)∧Below B w w':=by
 rcases hv with rfl | ⟨b,off,pl,rfl,hp,_⟩
 · exact (as_errno e _ old w hg ht0 hf0).mono fun _ _ ⟨h1,h2⟩=>⟨h1,asEnd hB ht0 h2⟩
 · exact (as_at e b off _ old w hg ht0 hf0 hp).mono fun _ _ ⟨h1,h2⟩=>⟨h1,asEnd hB ht0 h2⟩
theorem isErr.alloc {w:World} {v:Value} {e:Int} (h:isErr w v e) (o:Obj):isErr (w.alloc o) v e:=by
 rcases h with h | ⟨b,off,pl,h1,h2,h3⟩
 · exact .inl h
 · exact .inr ⟨b,off,pl,h1,by rw [World.cell?_alloc_lt _ _ _ (lt_of_cell h2)];exact h2,by rw [World.cell?_alloc_lt _ _ _ (lt_of_cell h3)];exact h3⟩
theorem isErr.below {w w':World} {v:Value} {e:Int} (h:isErr w v e) (hb:Below w.heap.size w w'):isErr w' v e:=by
 rcases h with h | ⟨b,off,pl,h1,h2,h3⟩
 · exact .inl h
 · exact .inr ⟨b,off,pl,h1,by rw [hb.cell (lt_of_cell h2)];exact h2,by rw [hb.cell (lt_of_cell h3)];exact h3⟩
theorem isErr.iface {w:World} {v:Value} {e:Int} (h:isErr w v e):∃ t u,v=.iface t u:=by
 rcases h with h | ⟨b,off,pl,h1,h2,h3⟩
 · exact ⟨_,_,h⟩
 · exact ⟨_,_,h1⟩
set_option maxRecDepth 100000 in
set_option maxHeartbeats 1000000 in
theorem tell_err (v:Value) (e:Int) (w:World) (hg:errT w) (hv:isErr w v e):Calls Tryz.prog 42 #[v] w fun r w'=>r=.returned (.int .i64 e)∧Below w.heap.size w w':=by
 have HG:=Lib.hid (hg.alloc (.cells #[.int .i64 0] 40))
 have HV:=Lib.hid (hv.alloc (.cells #[.int .i64 0] 40))
 obtain ⟨t,u,rfl⟩:=hv.iface
 clear hg hv
 go_enter Tryz.func42,Tryz.ntmps42
 go_wp2_with (go_at_call 76;refine (as_err _ e w.heap.size (.int .i64 0) _ HG.out (by simp) (by simp) (by simp) HV.out).mono ?_;rintro ev w' ⟨rfl,hc,hb⟩;clear HG HV)
 go_ret
 exact ⟨rfl,((Below.refl _ _).alloc (Nat.le_refl _) _).trans (by assumption)⟩
end Go.Proofs.YtddbpnplbcjpgaaGreatDoor
namespace Go.Proofs.YtddbpnplbcjpgaaGreatDoor
open Go.RowKit
def placeIs (w:World) (v:Value) (e pl:Int):Prop :=
 (v=.nilIface∧e=0∧pl=-1)∨(v=.iface 40 (.int .i64 e)∧pl=-1)∨∃ b off,v=.iface 114 (.pointer (some ⟨b,off,none⟩))∧w.cell? ⟨b,off,none⟩=some (.int .i64 e)∧w.cell? ⟨b,off + 1,none⟩=some (.int .i64 pl)
theorem placeIs.alloc {w:World} {v:Value} {e pl:Int} (h:placeIs w v e pl) (o:Obj):placeIs (w.alloc o) v e pl:=by
 rcases h with h | h | ⟨b,off,h1,h2,h3⟩
 · exact .inl h
 · exact .inr (.inl h)
 · exact .inr (.inr ⟨b,off,h1,by rw [World.cell?_alloc_lt _ _ _ (lt_of_cell h2)];exact h2,by rw [World.cell?_alloc_lt _ _ _ (lt_of_cell h3)];exact h3⟩)
theorem placeIs.below {w w':World} {v:Value} {e pl:Int} (h:placeIs w v e pl) (hb:Below w.heap.size w w'):placeIs w' v e pl:=by
 rcases h with h | h | ⟨b,off,h1,h2,h3⟩
 · exact .inl h
 · exact .inr (.inl h)
 · exact .inr (.inr ⟨b,off,h1,by rw [hb.cell (lt_of_cell h2)];exact h2,by rw [hb.cell (lt_of_cell h3)];exact h3⟩)
set_option maxRecDepth 100000 in
set_option maxHeartbeats 1000000 in
theorem place_nil (w:World):Calls Tryz.prog 23 #[.nilIface] w fun r w'=>r=.returned (.tuple #[.int .i64 0,.int .i64 (-1)])∧w=w':=by
 go_enter Tryz.func23,Tryz.ntmps23
 go_wp2_with (go_at_call 42;refine (tell_nil _).mono ?_;rintro e w' ⟨rfl,rfl⟩)
 refine wp_loop_rounds 1 ?_
 rw [rounds_succ]
 go_wp2
 go_ret2
 exact ⟨rfl,rfl⟩
set_option maxRecDepth 100000 in
set_option maxHeartbeats 1000000 in
theorem place_errno (e:Int) (w:World) (hg:errT w):Calls Tryz.prog 23 #[.iface 40 (.int .i64 e)] w fun r w'=>r=.returned (.tuple #[.int .i64 e,.int .i64 (-1)])∧Below w.heap.size w w':=by
 have nU:=As.noUnwrapE
 have nA:=As.noAtE
 have HG:=Lib.hid hg
 clear hg
 go_enter Tryz.func23,Tryz.ntmps23
 go_wp2_with (go_at_call 42;refine (tell_err _ e _ HG.out (.inl rfl)).mono ?_;rintro r w' ⟨rfl,hb⟩)
 refine wp_loop_rounds 1 ?_
 rw [rounds_succ]
 go_wp2
 go_ret2
 exact ⟨rfl,by assumption⟩
set_option maxRecDepth 100000 in
set_option maxHeartbeats 1000000 in
theorem place_at (e pl:Int) (b off:Nat) (w:World) (hg:errT w) (hc0:w.cell? ⟨b,off,none⟩=some (.int .i64 e)) (hc1:w.cell? ⟨b,off + 1,none⟩=some (.int .i64 pl)) :
   Calls Tryz.prog 23 #[.iface 114 (.pointer (some ⟨b,off,none⟩))] w fun r w'=>r=.returned (.tuple #[.int .i64 e,.int .i64 pl])∧Below w.heap.size w w':=by
 have iA:=As.isAtA
 have HG:=Lib.hid hg
 have HV:Hid (isErr w (.iface 114 (.pointer (some ⟨b,off,none⟩))) e):=.inr ⟨b,off,pl,rfl,hc0,hc1⟩
 have H1:=Lib.hid hc1
 have hlt:=lt_of_cell hc0
 clear hg hc0 hc1
 go_enter Tryz.func23,Tryz.ntmps23
 go_wp2_with fail
 refine (tell_err _ e _ HG.out HV.out).mono ?_
 rintro r w1 ⟨rfl,hb⟩
 have hc1:w1.cell? ⟨b,off + 1,none⟩=some (.int .i64 pl):=(hb.cell hlt).trans H1.out
 have HB:=Lib.hid hb
 clear hb
 go_wp2
 refine wp_loop_rounds 1 ?_
 rw [rounds_succ]
 go_wp2
 go_quiet (fail)
 go_wp2
 go_ret2
 exact ⟨rfl,below_drewN HB.out _⟩
theorem place_any (v:Value) (e pl:Int) (w:World) (hg:errT w) (h:placeIs w v e pl) :
   Calls Tryz.prog 23 #[v] w fun r w'=>r=.returned (.tuple #[.int .i64 e,.int .i64 pl])∧Below w.heap.size w w':=by
 rcases h with ⟨rfl,rfl,rfl⟩ | ⟨rfl,rfl⟩ | ⟨b,off,rfl,h0,h1⟩
 · exact (place_nil w).mono fun _ _ ⟨h1,h2⟩=>⟨h1,h2 ▸ Below.refl _ _⟩
 · exact place_errno e w hg
 · exact place_at e pl b off w hg h0 h1
set_option maxRecDepth 100000 in
theorem bare_ok (v:Value) (e:Int) (w:World) (hg:errT w) (h:placeIs w v e (-1)) :
   Calls Tryz.prog 6 #[v,.int .i64 e] w fun r w'=>r=.returned (.bool true)∧Below w.heap.size w w':=by
 go_enter Tryz.func6,Tryz.ntmps6
 go_wp2_with (go_at_call 23;refine (place_any _ _ _ _ hg h).mono ?_;rintro r w' ⟨rfl,hb⟩)
 go_ret
 exact ⟨rfl,by assumption⟩
set_option maxRecDepth 100000 in
theorem placed_ok (v:Value) (e pl:Int) (w:World) (hg:errT w) (h:placeIs w v e pl) :
   Calls Tryz.prog 11 #[v,.agg #[.int .i64 e,.int .i64 pl]] w fun r w'=>r=.returned (.bool true)∧Below w.heap.size w w':=by
 have HG:=Lib.hid (hg.alloc (.cells #[.int .i64 e,.int .i64 pl] 49))
 have HP:=Lib.hid (h.alloc (.cells #[.int .i64 e,.int .i64 pl] 49))
 clear hg h
 go_enter Tryz.func11,Tryz.ntmps11
 go_wp2_with fail
 refine (place_any _ _ _ _ HG.out HP.out).mono ?_
 rintro r w1 ⟨rfl,hb⟩
 have c0:w1.cell? ⟨w.heap.size,0,none⟩=some (.int .i64 e):=(hb.cell (by simp)).trans (by simp)
 have c1:w1.cell? ⟨w.heap.size,1,none⟩=some (.int .i64 pl):=(hb.cell (by simp)).trans (by simp)
 have HB:Hid (Below w.heap.size w w1):=((Below.refl _ _).alloc (Nat.le_refl _) _).trans (hb.mono (by simp))
 clear hb HG HP
 go_wp2
 go_ret
 exact ⟨rfl,HB.out⟩
end Go.Proofs.YtddbpnplbcjpgaaGreatDoor
