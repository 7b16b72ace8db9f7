import Derived.Test.YtdhognaoejiglaaGreatDoorKa14
import Derived.ChangeVars
import Derived.JoinedOf
import Derived.RowKit
import Derived.LaidLaws
import Derived.LaidHandle
import Derived.Stop.Joined
namespace Go.Proofs.YtdhognaoejiglaaGreatDoor
open Lib (hid)
set_option maxRecDepth 100000
set_option maxHeartbeats 8000000
section
open Go.RowKit
def eZ (l:List Tok) (b:List Nat):Nat×Int:=if (am l 0 0).1=0 then (0,-1) else ((am l 0 0).1,((b.getD (am l 0 0).2.toNat 0:Nat):Int))
theorem Eg {l:List Tok} {i a:Nat} (h:(am l i a).1≠0):∃ j,(am l i a).2=((i+j:Nat):Int)∧j<l.length:=by
 induction l generalizing i a with
 | nil=>exact absurd rfl h
 | cons t r ih =>
  by_cases hw:aG t a=0
  ·rw [gx hw] at h ⊢;obtain ⟨j,h1,h2⟩:=ih h;exact ⟨j+1,by rw [h1];congr 1;omega,by simp;omega⟩
  ·rw [oV hw];exact ⟨0,by simp,by simp⟩
theorem C5 (v bv:Value) (l:List Tok) (b:List Nat) (base:Nat) (w:World) (hv:ga w v l) (hl:l.length≤9223372036854775807) (hz:∀ t∈l,t.own.size≤140737488351232) (hb:aW w base bv b) (hbl:b.length=l.length) :
 Calls Tryz.prog 208 #[v,bv] w (kD w (eZ l b)):=by
 have iA:=As.isAtA;have nA:∀ (xT:TypeId) (w:World),(Instr.typeAssert .nilIface xT 84 true).run Tryz.prog w=.ok (.tuple #[.pointer none,.bool false]) w:=fun xT w=>by kernel_rfl
 by_cases hr:(am l 0 0).1=0
 ·have HRB:Hid (eZ l b=(0,-1)):=hid (show eZ l b=(0,-1) by unfold eZ;rw [if_pos hr]);have HR0:=hid hr;have HV:=hid hv;have HZ:=hid hz;clear hr hv hz hb hbl;rw [HRB.out];go_enter Tryz.func208,Tryz.ntmps208
  go_wp2_with fail
  refine (im _ l _ HV.out hl HZ.out).mono ?_;rintro r w0 ⟨err,rfl,hat,hb0⟩;obtain rfl:err=.nilIface:=by
   rcases hat with ⟨_,h⟩ | ⟨h,_⟩
   ·exact h
   ·exact absurd HR0.out h
  have HB0:=hid hb0;clear hat hb0;go_wp2;go_ret;exact ⟨_,rfl,.inl ⟨rfl,rfl⟩,HB0.out⟩
 ·obtain ⟨j,hj,hjl⟩:=Eg hr;rw [Nat.zero_add] at hj;obtain ⟨e,he⟩:∃ e,(am l 0 0).1=e:=⟨_,rfl⟩;have hre:am l 0 0=(e,(j:Int)):=Prod.ext he hj;have hne:e≠0:=by rw [←he];exact hr
  obtain ⟨q,hq⟩:∃ q,b.getD j 0=q:=⟨_,rfl⟩;have HRB:Hid (eZ l b=(e,(q:Int))):=hid (show eZ l b=(e,(q:Int)) by unfold eZ;rw [if_neg hr,hre];simp only [Int.toNat_natCast];rw [hq]);have HRE:=hid hre;have HNE:=hid hne;have HV:=hid hv;have HZ:=hid hz;have HBO:=hid hb;rcases hb.forms with ⟨_,hnil⟩ | ⟨g,cap,rfl,hbg,hgl,hcells⟩
  ·rw [hnil] at hbl;simp at hbl;omega
  ·have hcj:=hcells j (by omega);rw [hq] at hcj;have hjb:(j:Int)<(b.length:Int):=by omega
   have hj0:(0:Int)≤(j:Int):=by omega
   obtain ⟨n,hn⟩:∃ n,n=b.length:=⟨_,rfl⟩;rw [←hn] at hjb ⊢;clear hr hj he hre hne hv hz hb hbl hcells hjl hq hn;rw [HRB.out];go_enter Tryz.func208,Tryz.ntmps208
   go_wp2_with fail
   refine (im _ l _ HV.out hl HZ.out).mono ?_;rintro r w0 ⟨err,rfl,hat,hb0⟩;rw [HRE.out] at hat;rcases hat with ⟨h,_⟩ | ⟨_,a,rfl,ha,c0,c1⟩
   ·exact absurd (congrArg Prod.fst h) HNE.out
   ·simp only at c0 c1
    have c2:w0.cell? ⟨g,j,none⟩=some (.int .i64 (q:Int)):=(hb0.cell hgl).trans hcj;have HB0:=hid hb0;have hsz:=hb0.size;clear hb0 hcj;go_wp2;go_region
    go_wp2;go_ret;exact ⟨_,rfl,atIs.new w0 e (q:Int) HNE.out,(HB0.out.alloc hsz _).drew⟩
end
section
open Go.ChangeShapes Go.WideShapes Go.RowKit
def cG : List (String × DataW Unit) := [("errors.errorType", Rows.laid_errors_errorType)]
theorem own:ownKnob Tryz.prog.godebug=none:=by kernel_rfl
theorem Bf : Tryz.prog.globalNamed "errors.errorType" = some 0 := by kernel_rfl
theorem Bh : (Tryz.prog.cutTypes.find? (·.1 == "internal/reflectlite.rtype")).map (·.2) = some 160 := by kernel_rfl
theorem Bi:Tryz.prog.types.size=316:=by kernel_rfl
theorem Bg:((List.range 316).filter fun t=>Tryz.prog.rowNamed t [101,114,114,111,114])=[41]:=by kernel_rfl
theorem iZ {W:World} (h:laidMetH Tryz.prog cG W):errT W:=by
 have h':laidMet Tryz.prog [] W∧handlesMet Tryz.prog cG W:=h;obtain ⟨name,u,ty,e1,e2,e3,e4,e5⟩:=h'.2 _ (List.mem_singleton.2 rfl);have en:name=[101,114,114,111,114]:=(Option.some.inj e1).symm;subst en;obtain rfl:=Option.some.inj (Bh.symm.trans e2);have hm:ty∈(List.range 316).filter fun t=>Tryz.prog.rowNamed t [101,114,114,111,114]:=List.mem_filter.2 ⟨List.mem_range.2 (by rw [←Bi];exact e3),e4⟩
 rw [Bg] at hm;obtain rfl:=List.mem_singleton.1 hm;have hh:typeHandle Tryz.prog 41=.pointer (some ⟨2,41,none⟩):=by kernel_rfl
 rw [hh] at e5;unfold errT
 simpa using World.var?_cell Bf e5 0
noncomputable def i7 (os:Os):World :=
 let w0:=World.holding Tryz.prog os ⟨#[],#[],[]⟩
 { w0 with heap := w0.heap.modify 0 fun
     | .cells _ t frozen=>.cells #[.iface 160 (.agg #[.pointer (some ⟨2,41,none⟩)])] t frozen
     | o=>o }
theorem jq (os:Os) (args:Array Value):laidMetH Tryz.prog cG ((i7 os).forCall (fun _ _=>0) ⟨#[],args,[]⟩).memory :=
 laidMetH_of_parts (laidMet_nil _ _) (by kernel_rfl)
end
section
open Go.RowKit Go.Maps
theorem zc (w:World) (R P M m:Nat) (D:DataW Value) (G:ByteArray→Cel) (L:ByteArray→Value) (h:cd w R P M m D G L) (hm:m≤100000) (hkb:∀ k,live (G k)=true→k.size≤140737488351232) :
 Calls Tryz.prog 57 #[.pointer (some ⟨P,0,none⟩)] w fun e w'=>∃ v z,e=.returned v∧fi G z∧bS w' v z∧Below w.heap.size w w'∧∀ k,v.ownBlock=some k→w.heap.size≤k:=by
 have HW:=hid h;have HM:=hid hm;have HKB:=hid hkb;have p0:w.cell? ⟨P,0,none⟩=some (.map (some M)):=cell_of_row _ _ 0 _ _ _ h.row;clear h hm hkb;go_enter Tryz.func57,Tryz.ntmps57
 go_wp2_with (first | (at_range;refine wpList_range_own _ rfl _ 121 rfl 9 100 eU Tryz.underlying121 cE M m D rfl HW.out.map ?_;intro w0 hrg0 hg0 hs0) | go_in)
 go_frame
 have HC0:Hid (kv w w0 R P M m D G L (Maps.has D) (Maps.size D) [] [] (.slice none 0 0)):=hid ⟨hrg0,List.nodup_nil,fun k=>by
  rw [HW.out.sto.has k];simp,fun k hk=>by rw [HW.out.sto.has k] at hk;exact hk,uc _ _,⟨rfl,fun c hc=>by cases hc⟩,⟨hg0.os,hg0.tape,hg0.output,hg0.size,fun k hk=>hg0.block k hk (by simp)⟩,by
  have:=HW.out.map.size_le;simpa using this,by omega⟩
 clear hrg0 hg0 hs0 p0
 go_loopw [3] (fun v wr=>∃ left cnt ks zs,kv w wr R P M m D G L left cnt ks zs v) (fun _ wr=>wr.rangeLeft M w.heap.size)
 case atStart=>exact ⟨_,_,_,_,HC0.out⟩
 case round =>
  obtain ⟨left,cnt,ks,zs,hc⟩:=hrel;have HC:=hid hc;clear hc HC0;go_wp2_with (first | (at_next;refine wpList_next_ranges _ rfl _ rfl 9 eU cE Value.string cvV sR qT M w.heap.size m D left cnt rfl HC.out.rng ?_ ?_) | go_in)
  ·intro hc0 hl0;have hmem:∀ k,k∈ks↔live (G k)=true:=fun k=>by rw [HC.out.mem k];simp [hl0]
   have HMEM:=hid hmem;clear hc0 hl0 hmem;rcases HC.out.own.shape with ⟨rfl,hz⟩ | ⟨g,cap,rfl,hgb⟩
   ·have hk:ks=[]:=by rw [←HC.out.rows.1,hz];rfl
    have HK:=hid hk;clear hz hk;go_wp2_with (go_at_call 78;refine (uL _ _).mono ?_;rintro e w1 ⟨rfl,rfl⟩)
    go_ret;obtain ⟨z,h1,h2⟩:=bZ.cells (ks':=ks) (v:=.slice none 0 0) HC.out.rows HC.out.nodup (List.Perm.refl _) (by rw [HK.out];exact List.Pairwise.nil) HMEM.out (by rw [HK.out];exact dj.nil _);exact ⟨_,z,rfl,h1,h2,HC.out.bel,fun k e=>by cases e⟩
   ·have hkl:zs.length=ks.length:=by rw [←HC.out.rows.1,List.length_map]
    have hkz:ks.map (cQ zs)=zs:=by rw [←HC.out.rows.1];exact qP (by rw [HC.out.rows.1];exact HC.out.nodup)
    have HKZ:Hid (bI wr (w.heap.size+1) (.slice (some ⟨g,0,none⟩) ks.length cap) (ks.map (cQ zs))):=hid (by rw [hkz,←hkl];exact HC.out.own);have HKN:Hid (ks.length≤1000000):=hid (by have:=HC.out.cnt;have:=HM.out;omega);have HOW:=hid HC.out.own;have HROW:=hid HC.out.rows;have HND:=hid HC.out.nodup;have HBE:=hid HC.out.bel;have HSZ:=hid HC.out.sz;have HGB:=hid hgb;rw [hkl] at HOW ⊢;clear hkl hkz HC hgb;go_wp2_with (go_at_call 78;refine (uK 79 qX qY (cQ zs) (qQ zs) (qS HROW.out) ks g cap (w.heap.size+1) _ HKZ.out HKN.out).mono ?_;rintro e w1 ⟨rfl,ks',hp,hs,hv,hg1⟩;have HX:Hid (ks'.Perm ks∧ks'.Pairwise (fun a b=>leB a b=true)∧dj w1 (.slice (some ⟨g,0,none⟩) ks.length cap) (ks'.map (cQ zs))∧wr.grownBy w1 (some g)):=hid ⟨hp,hs,hv,hg1⟩;clear hp hs hv hg1)
    go_ret;obtain ⟨hp,hs,hv,hg1⟩:=HX.out;obtain ⟨z,h1,h2⟩:=bZ.cells (HROW.out.kept HOW.out hg1) HND.out hp hs HMEM.out hv;exact ⟨_,z,rfl,h1,h2,fG HBE.out hg1 HSZ.out (fun b e=>by cases e;have:=HGB.out;omega),fun b e=>by have e2:g=b:=Option.some.inj e;have:=HGB.out;omega⟩
  ·intro x c kl yd yp w1 cnt1 hkey hlk hv hat hrg1 hlt hg1 hs1 hen;obtain ⟨hxs,rfl⟩:=sS hkey;obtain ⟨c',e,hy⟩:=iR hv;obtain rfl:=iV e;simp only [Prod.mk.injEq] at hy
   obtain ⟨rfl,rfl⟩:=hy;obtain ⟨hl,rfl⟩:=HW.out.sto.entry hat;obtain ⟨a,cc,hLx⟩:=(HW.out.own x hl).slice;rw [hLx] at hen;have hb1:Below w.heap.size w w1:=fG HC.out.bel hg1 HC.out.sz (fun b e=>by cases e;exact Nat.le_refl _);have hen2:(Instr.entry (.pointer (some ⟨w.heap.size,0,none⟩))).run Tryz.prog w1=.ok (.tuple #[.string x,.agg #[.string x,.bool (G x).has,.string (G x).text,.int .i64 (G x).sum,.slice a (G x).list.length cc]]) w1:=hen;have HLX:Hid (bg w (.slice a (G x).list.length cc) (G x).list):=hid (by rw [←hLx];exact (HW.out.own x hl).isTexts);obtain ⟨t,ht⟩:∃ t,t=(G x).text:=⟨_,rfl⟩;obtain ⟨hh,hhh⟩:∃ hh,hh=(G x).has:=⟨_,rfl⟩;obtain ⟨sm,hsm⟩:∃ sm,sm=(G x).sum:=⟨_,rfl⟩;obtain ⟨ll,hll⟩:∃ ll,ll=(G x).list:=⟨_,rfl⟩;obtain ⟨n,hn⟩:∃ n,n=(G x).list.length:=⟨_,rfl⟩;have htx:t.size≤140737488351232:=by rw [ht];exact (HW.out.text x).1
   have htl:∀ q∈ll,q.size≤140737488351232:=by rw [hll];exact (HW.out.text x).2
   have hlm:ll.length≤1000000:=by rw [hll];have:=HW.out.len x;have:=HM.out;omega
   have HEQ:Hid (t=(G x).text∧hh=(G x).has∧sm=(G x).sum∧ll=(G x).list):=hid ⟨ht,hhh,hsm,hll⟩;rw [←ht,←hhh,←hsm,←hn] at hen2;rw [←hn,←hll] at HLX;have HTL:=hid htl;have HB1:=hid hb1;have HG1:=hid hg1;have HRG1:=hid hrg1;have HLT:=hid hlt;have HLK:=hid hlk;have HL:=hid hl;have HS1:=hid hs1;have hxs2:x.size≤140737488351232:=HKB.out x HL.out;clear htl hb1 hg1 hrg1 hlt hlk hl hs1 hen hat hv hkey e hLx ht hhh hsm hll hn;go_wp2_with fail
   refine (qh x t hh sm a n cc ll _ hxs2 htx (HLX.out.below (HB1.out.alloc HB1.out.size _)) hlm HTL.out).mono ?_;rintro r w3 ⟨u,rfl,ho3,hb3⟩;obtain ⟨au,cu,rfl⟩:=ho3.slice;have HO3:=hid ho3;have HB3:=hid hb3;clear ho3 hb3;go_wp2_with (first
    | (at_builtin;refine wW rfl _ _ rfl (w.heap.size+1) u3 zs rfl (kU HC.out.own HG1.out HB3.out) w3.heap.size 1 rfl ⟨x,hh,t,sm,.slice au ll.length cu⟩ rfl (MapKept.heap_alloc w3 _).1 (by have:=HC.out.cnt;have:=HC.out.rows.1;have:=HM.out;have h9:=congrArg List.length HC.out.rows.1;rw [List.length_map] at h9;omega) (by have:=HB3.out.size;simp at this ⊢;have:=HS1.out;have:=HC.out.sz;omega) ?_;intro g cap w5 ho5 hg5;have HO5:=hid ho5;have HG5:=hid hg5;clear ho5 hg5))
   obtain ⟨rfl,rfl,rfl,rfl⟩:=HEQ.out;have gA:w1.grownBy (w3.alloc (.cells #[.string x,.bool (G x).has,.string (G x).text,.int .i64 (G x).sum,.slice au (G x).list.length cu] 100)) none:=bB (cz (bB (aV _ none) _) (bU HB3.out)) _;have hco:=kU (o2:=.cells #[.string x,.bool (G x).has,.string (G x).text,.int .i64 (G x).sum,.slice au (G x).list.length cu] 100) HC.out.own HG1.out HB3.out;have hMw:M<w.heap.size:=Nat.lt_of_lt_of_le HW.out.mr HW.out.rw';have hr5:=(HRG1.out.kept gA (by simp) (by simp)).kept HG5.out (lQ HC.out.own (by omega)) (lQ HC.out.own (by omega));refine ⟨⟨_,cnt1,ks++[x],_,⟨hr5,?_,fun k=>?_,fun k hk=>?_,HO5.out,?_,?_,?_,?_⟩⟩,?_⟩
   ·rw [List.nodup_append];refine ⟨HC.out.nodup,by simp,fun a ha b hb=>?_⟩;obtain rfl:=List.mem_singleton.1 hb;rintro rfl;have:=((HC.out.mem a).1 ha).2;rw [HLK.out] at this;cases this
   ·rw [List.mem_append,HC.out.mem k,List.mem_singleton];by_cases e:k=x
    ·subst e;have hsk:(keyL k).sameKey (keyL k)=true:=by simp [keyL,Lit.sameKey]
     simp [hsk,HL.out]
    ·have hsk:(keyL k).sameKey (keyL x)=false:=Maps.sameKey_ne (fun e2=>e (eo e2));simp [hsk,e]
   ·simp only [Bool.and_eq_true] at hk
    exact HC.out.lsub k hk.1
   ·refine (((HC.out.rows.off HG1.out (Nat.lt_succ_self _)).grown gA).add (ai.mono (HO3.out.alloc _) ?_)).kept hco HG5.out;have:=HB1.out.size;simp;omega
   ·refine fG (fG HB1.out gA (by have:=HS1.out;have:=HC.out.sz;omega) (fun g e=>by cases e)) HG5.out ?_ (fun g e=>by have:=(HC.out.own.lt g e).1;omega);have:=gA.size;have:=HS1.out;have:=HC.out.sz;omega
   ·have:=HC.out.cnt;have:=HLT.out;rw [List.length_append];simp;omega
   ·have:=gA.size;have:=HG5.out.size;have:=HS1.out;have:=HC.out.sz;omega
   ·rw [hr5.left_eq,HC.out.rng.left_eq];exact HLT.out
end
section
open Go.RowKit
theorem errT.alloc {w:World} (h:errT w) (o:Obj):errT (w.alloc o):=by
 unfold errT at h ⊢;rw [World.cell?_alloc_lt _ _ _ (aK h)];exact h
theorem errT.below {w w':World} (h:errT w) (hb:Below w.heap.size w w'):errT w':=by
 unfold errT at h ⊢;rw [hb.cell (aK h)];exact h
theorem ql {w w':World} {B:Nat} {e:Int} {old:Value} (hB:B<w.heap.size) (ht0:w.cell? ⟨B,0,none⟩=some old)
 (h:((eI w ⟨B,0,none⟩).alloc (.cells #[.int .i64 e] 68)).setCell ⟨B,0,none⟩ (.int .i64 e)=w'):w'.cell? ⟨B,0,none⟩=some (.int .i64 e)∧Below B w w':=by
 subst h;have hs:(eI w ⟨B,0,none⟩).heap.size=w.heap.size+1+1+1:=by simp [eI]
 have hc:((eI w ⟨B,0,none⟩).alloc (.cells #[.int .i64 e] 68)).cell? ⟨B,0,none⟩=some old:=by
  rw [World.cell?_alloc_lt _ _ _ (by rw [hs];show B<_;omega)];unfold eI;rw [World.cell?_alloc_lt _ _ _ (by simp;omega),World.cell?_alloc_lt _ _ _ (by simp;omega),World.cell?_alloc_lt _ _ _ hB];exact ht0
 refine ⟨World.cell?_setCell_same _ _ _ hc,?_⟩;refine Below.setCell ?_ (show B≤B from Nat.le_refl _) _;refine Below.alloc ?_ (by rw [hs];omega) _;unfold eI;exact (((Below.refl _ _).alloc (by omega) _).alloc (by simp;omega) _).alloc (by simp;omega) _
def isErr (w:World) (v:Value) (e:Int):Prop :=
 v=.iface 68 (.int .i64 e)∨∃ b off pl,v=.iface 84 (.pointer (some ⟨b,off,none⟩))∧w.cell? ⟨b,off,none⟩=some (.int .i64 e)∧w.cell? ⟨b,off+1,none⟩=some (.int .i64 pl)
theorem ye (v:Value) (e:Int) (B:Nat) (old:Value) (w:World) (hg:errT w) (hB:B<w.heap.size) (ht0:w.cell? ⟨B,0,none⟩=some old) (hf0:w.frozen? ⟨B,0,none⟩=false) (hv:isErr w v e) :
 Calls Tryz.prog 60 #[v,.iface 107 (.pointer (some ⟨B,0,none⟩))] w fun ev w'=>ev=.returned (.bool true)∧w'.cell? ⟨B,0,none⟩=some (.int .i64 e)∧Below B w w':=by
 rcases hv with rfl | ⟨b,off,pl,rfl,hp,_⟩
 ·exact (yf e _ old w hg ht0 hf0).mono fun _ _ ⟨h1,h2⟩=>⟨h1,ql hB ht0 h2⟩
 ·exact (yc e b off _ old w hg ht0 hf0 hp).mono fun _ _ ⟨h1,h2⟩=>⟨h1,ql hB ht0 h2⟩
theorem isErr.alloc {w:World} {v:Value} {e:Int} (h:isErr w v e) (o:Obj):isErr (w.alloc o) v e:=by
 rcases h with h | ⟨b,off,pl,h1,h2,h3⟩
 ·exact .inl h
 ·exact .inr ⟨b,off,pl,h1,by rw [World.cell?_alloc_lt _ _ _ (aK h2)];exact h2,by rw [World.cell?_alloc_lt _ _ _ (aK h3)];exact h3⟩
theorem isErr.below {w w':World} {v:Value} {e:Int} (h:isErr w v e) (hb:Below w.heap.size w w'):isErr w' v e:=by
 rcases h with h | ⟨b,off,pl,h1,h2,h3⟩
 ·exact .inl h
 ·exact .inr ⟨b,off,pl,h1,by rw [hb.cell (aK h2)];exact h2,by rw [hb.cell (aK h3)];exact h3⟩
theorem isErr.iface {w:World} {v:Value} {e:Int} (h:isErr w v e):∃ t u,v=.iface t u:=by
 rcases h with h | ⟨b,off,pl,h1,h2,h3⟩
 ·exact ⟨_,_,h⟩
 ·exact ⟨_,_,h1⟩
theorem dM (v:Value) (e:Int) (w:World) (hg:errT w) (hv:isErr w v e):Calls Tryz.prog 35 #[v] w fun r w'=>r=.returned (.int .i64 e)∧Below w.heap.size w w':=by
 have HG:=hid (hg.alloc (.cells #[.int .i64 0] 68));have HV:=hid (hv.alloc (.cells #[.int .i64 0] 68));obtain ⟨t,u,rfl⟩:=hv.iface;clear hg hv;go_enter Tryz.func35,Tryz.ntmps35
 go_wp2_with (go_at_call 60;refine (ye _ e w.heap.size (.int .i64 0) _ HG.out (by simp) (by simp) (by simp) HV.out).mono ?_;rintro ev w' ⟨rfl,hc,hb⟩;clear HG HV)
 go_ret;exact ⟨rfl,((Below.refl _ _).alloc (Nat.le_refl _) _).trans (by assumption)⟩
end
section
open Go.RowKit
theorem atIs.isErr {w:World} {v:Value} {r:Nat×Int} (h:atIs w v r) (h0:r.1≠0):isErr w v (r.1:Nat):=by
 rcases h with ⟨h1,h2⟩ | ⟨_,b,h1,_,h3,h4⟩
 ·exact absurd (by rw [h1]) h0
 ·exact .inr ⟨b,0,_,h1,h3,h4⟩
def aC (w:World) (v:Value) (r:Nat×Int):Prop:=atIs w v r∨(r.1≠0∧r.2=-1∧v=.iface 68 (.int .i64 (r.1:Nat)))
theorem aC.below {w w':World} {v:Value} {r:Nat×Int} (h:aC w v r) (hb:Below w.heap.size w w'):aC w' v r:=by
 rcases h with h | h
 ·exact .inl (h.below hb)
 ·exact .inr h
theorem aC.nil {w:World} {v:Value} {r:Nat×Int} (h:aC w v r) (h0:r.1=0):v=.nilIface:=by
 rcases h with (⟨_,h⟩ | ⟨h,_⟩) | ⟨h,_⟩
 ·exact h
 ·exact absurd h0 h
 ·exact absurd h0 h
theorem aC.iface {w:World} {v:Value} {r:Nat×Int} (h:aC w v r) (h0:r.1≠0):∃ t u,v=.iface t u:=by
 rcases h with (⟨h,_⟩ | ⟨_,b,h,_⟩) | ⟨_,_,h⟩
 ·exact absurd (by rw [h]) h0
 ·exact ⟨_,_,h⟩
 ·exact ⟨_,_,h⟩
theorem aC.isErr {w:World} {v:Value} {r:Nat×Int} (h:aC w v r) (h0:r.1≠0):isErr w v (r.1:Nat):=by
 rcases h with h | ⟨_,h1,h2⟩
 ·exact h.isErr h0
 ·exact .inl h2
def iF (w:World) (r:Nat×Int) (e:Ending) (w':World):Prop :=
 ∃ v,e=.returned v∧aC w' v r∧Below w.heap.size w w'
theorem bY {w w':World} (h:Below w.drew.heap.size w.drew w'):Below w.heap.size w w':=((Below.refl _ _).drew).trans h
theorem ed {w w':World} {B:Nat} (h:Below B w w') (q:Nat):Below B w (w'.drewN q):=by
 induction q with
 | zero=>exact h
 | succ q ih=>exact ih.drew
end
section
open Go.RowKit
theorem dP (s:ByteArray) (w:World) (hs:s.size≤maxLen) (n k:Nat) (h:getL s.data.toList=(n,k,0)) :
 Calls Tryz.prog 182 #[.string s] w fun e w'=>e=.returned (.tuple #[.int .u64 n,.int .i64 k,.nilIface])∧w=w' :=
 (nY s w hs).mono fun e w' ⟨h1,h2⟩=>⟨h1.trans (by rw [h];rfl),h2⟩
theorem nZ (s:ByteArray) (w:World) (hs:s.size≤maxLen) (e:Nat) (h:getL s.data.toList=(0,0,e)) (he:e≠0) :
 Calls Tryz.prog 182 #[.string s] w fun r w'=>r=.returned (.tuple #[.int .u64 0,.int .i64 0,.iface 68 (.int .i64 e)])∧w=w' :=
 (nY s w hs).mono fun r w' ⟨h1,h2⟩=>⟨h1.trans (by rw [h];unfold numV errV;rw [if_neg he];rfl),h2⟩
theorem lP (n:Nat) (w:World) (h:n≤18446744073709551615) :
 Calls Tryz.prog 115 #[.int .u64 (n:Int)] w fun e w'=>e=.returned (.string ⟨(putL n).toArray⟩)∧Below w.heap.size w w' :=
 lN (n:Int) w (by omega) (by omega)
end
section
open Go.RowKit
structure bz (w:World) (P:Nat) (F:Nat→Prop) (s:LogS) (vh vw:Value):Prop where
 row:w.heap[P]? = some (.cells #[.int .i64 s.rep,vh,vw] 80 (0,0))
 ents:ae w 0 vh s.hv
 ows:aq w 0 vw s.ws
 inP:F P
 inE:∀ k,vh.ownBlock=some k→F k
 inW:∀ k,vw.ownBlock=some k→F k
 lt:∀ k,F k→k<w.heap.size
 nil:s.ws=[]→vw=.slice none 0 0
def bu (w:World) (P:Nat) (F:Nat→Prop) (s:LogS):Prop:=∃ vh vw,bz w P F s vh vw
theorem bz.but {w w':World} {P:Nat} {F G:Nat→Prop} {s:LogS} {vh vw:Value} (h:bz w P F s vh vw) (hb:But G w w') (hd:∀ k,F k→¬ G k):bz w' P F s vh vw :=
 ⟨(hb.block P (h.lt P h.inP) (hd P h.inP)).trans h.row,dI h.ents hb (fun k e=>hd k (h.inE k e)),dI h.ows hb (fun k e=>hd k (h.inW k e)),h.inP,h.inE,h.inW,fun k hk=>Nat.lt_of_lt_of_le (h.lt k hk) hb.size,h.nil⟩
theorem bz.below {w w':World} {P:Nat} {F:Nat→Prop} {s:LogS} {vh vw:Value} (h:bz w P F s vh vw) (hb:Below w.heap.size w w'):bz w' P F s vh vw :=
 h.but (G:=fun _=>False) (But.of_below hb) (fun _ _ h=>h)
theorem bu.but {w w':World} {P:Nat} {F G:Nat→Prop} {s:LogS} (h:bu w P F s) (hb:But G w w') (hd:∀ k,F k→¬ G k):bu w' P F s:=by
 obtain ⟨vh,vw,h⟩:=h;exact ⟨vh,vw,h.but hb hd⟩
theorem bu.below {w w':World} {P:Nat} {F:Nat→Prop} {s:LogS} (h:bu w P F s) (hb:Below w.heap.size w w'):bu w' P F s:=by
 obtain ⟨vh,vw,h⟩:=h;exact ⟨vh,vw,h.below hb⟩
theorem bu.lt {w:World} {P:Nat} {F:Nat→Prop} {s:LogS} (h:bu w P F s):∀ k,F k→k<w.heap.size:=by
 obtain ⟨vh,vw,h⟩:=h;exact h.lt
theorem bz.plt' {w:World} {P:Nat} {F:Nat→Prop} {s:LogS} {vh vw:Value} (h:bz w P F s vh vw):P<w.heap.size:=h.lt P h.inP
theorem bz.c0 {w:World} {P:Nat} {F:Nat→Prop} {s:LogS} {vh vw:Value} (h:bz w P F s vh vw):w.cell? ⟨P,0,none⟩=some (.int .i64 s.rep):=cell_of_row _ _ 0 _ _ _ h.row
theorem bz.c1 {w:World} {P:Nat} {F:Nat→Prop} {s:LogS} {vh vw:Value} (h:bz w P F s vh vw):w.cell? ⟨P,1,none⟩=some vh:=cell_of_row _ _ 1 _ _ _ h.row
theorem bz.c2 {w:World} {P:Nat} {F:Nat→Prop} {s:LogS} {vh vw:Value} (h:bz w P F s vh vw):w.cell? ⟨P,2,none⟩=some vw:=cell_of_row _ _ 2 _ _ _ h.row
end
section
open Go.RowKit
structure ApL (w W:World) (T R K:Int) (key val:ByteArray) (N:Int):Prop where
 rowc:W.heap[w.heap.size]? = some (.cells #[.int .i64 T,.int .i64 R,.int .i64 K,.string key,.string val,.int .i64 N] 38 (0,0))
 rowr:W.heap[w.heap.size+1]? = some (.cells #[.int .i64 0,.int .i64 0,.int .i64 0,.string ⟨#[]⟩,.string ⟨#[]⟩,.int .i64 0] 38 (0,0))
 bel:Below w.heap.size w W
 sz:w.heap.size+2≤W.heap.size
theorem ApL.below {w W W':World} {T R K N:Int} {key val:ByteArray} {B:Nat} (h:ApL w W T R K key val N) (hb:Below B W W') (hB:w.heap.size+2≤B):ApL w W' T R K key val N :=
 ⟨(hb.block _ (by omega)).trans h.rowc,(hb.block _ (by omega)).trans h.rowr,h.bel.trans (hb.mono (by omega)),Nat.le_trans h.sz hb.size⟩
theorem ApL.call {w W W':World} {T R K N:Int} {key val:ByteArray} (h:ApL w W T R K key val N) (hb:Below W.heap.size W W'):ApL w W' T R K key val N:=h.below hb h.sz
theorem apL0 (w:World) (T R K:Int) (key val:ByteArray) (N:Int) :
 ApL w ((w.alloc (.cells #[.int .i64 T,.int .i64 R,.int .i64 K,.string key,.string val,.int .i64 N] 38)).alloc (.cells #[.int .i64 0,.int .i64 0,.int .i64 0,.string ⟨#[]⟩,.string ⟨#[]⟩,.int .i64 0] 38)) T R K key val N:=by
 have s1:(w.alloc (.cells #[.int .i64 T,.int .i64 R,.int .i64 K,.string key,.string val,.int .i64 N] 38)).heap.size=w.heap.size+1:=by simp
 refine ⟨?_,?_,((Below.refl _ _).alloc (Nat.le_refl _) _).alloc (by simp) _,by simp⟩
 ·rw [Below.heap_alloc _ _ _ (by omega)];exact heap_alloc_new _ _
 ·have:=heap_alloc_new (w.alloc (.cells #[.int .i64 T,.int .i64 R,.int .i64 K,.string key,.string val,.int .i64 N] 38)) (.cells #[.int .i64 0,.int .i64 0,.int .i64 0,.string ⟨#[]⟩,.string ⟨#[]⟩,.int .i64 0] 38)
  rwa [s1] at this
theorem ApL.put {w W:World} {T R K N:Int} {key val:ByteArray} {j:Nat} {z:Value} (h:ApL w W T R K key val N) (hz:(#[.int .i64 T,.int .i64 R,.int .i64 K,.string key,.string val,.int .i64 N]:Array Value).setIfInBounds j z=#[.int .i64 T,.int .i64 R,.int .i64 K,.string key,.string val,.int .i64 N]) :
 ApL w (W.setCell ⟨w.heap.size,j,none⟩ z) T R K key val N :=
 ⟨by rw [←hz];exact heap_setCell_same _ _ j _ _ z h.rowc,(heap_setCell_other _ _ _ _ (by show _≠w.heap.size;omega)).trans h.rowr,h.bel.setCell (Nat.le_refl _) _,by rw [show (W.setCell ⟨w.heap.size,j,none⟩ z).heap.size=W.heap.size from by simp];exact h.sz⟩
theorem kG {w W:World} {T R K N:Int} {key val:ByteArray} (h:ApL w W T R K key val N) (i:Nat):W.frozen? ⟨w.heap.size,i,none⟩=false:=by simp [World.frozen?,h.rowc]
theorem gL {w W:World} {T R K N:Int} {key val:ByteArray} (h:ApL w W T R K key val N) (i:Nat):W.frozen? ⟨w.heap.size+1,i,none⟩=false:=by simp [World.frozen?,h.rowr]
theorem fj {w W:World} {T R K N:Int} {key val:ByteArray} (h:ApL w W T R K key val N):W.cell? ⟨w.heap.size,3,none⟩=some (.string key)∧W.cell? ⟨w.heap.size,4,none⟩=some (.string val):=⟨cell_of_row _ _ 3 _ _ _ h.rowc,cell_of_row _ _ 4 _ _ _ h.rowc⟩
theorem C1 {U:World} {B:Nat} {z0 z1 z2 z3 z4 z5:Value} {T:TypeId} (h:U.heap[B]? = some (.cells #[z0,z1,z2,z3,z4,z5] T (0,0))) (a0 a1 a2 a3 a4 a5:Value) :
 ((((((U.setCell ⟨B,0,none⟩ a0).setCell ⟨B,1,none⟩ a1).setCell ⟨B,2,none⟩ a2).setCell ⟨B,3,none⟩ a3).setCell ⟨B,4,none⟩ a4).setCell ⟨B,5,none⟩ a5).heap[B]? = some (.cells #[a0,a1,a2,a3,a4,a5] T (0,0)) :=
 heap_setCell_same _ _ 5 _ _ a5 (heap_setCell_same _ _ 4 _ _ a4 (heap_setCell_same _ _ 3 _ _ a3 (heap_setCell_same _ _ 2 _ _ a2 (heap_setCell_same _ _ 1 _ _ a1 (heap_setCell_same _ _ 0 _ _ a0 h)))))
theorem C2 (a0 a1 a2 a3 a4 a5:Value):(Tryz.prog.info? 38).map (·.size)=some (#[a0,a1,a2,a3,a4,a5]:Array Value).size:=by kernel_rfl
theorem oo (T R K:Int) (key val:ByteArray) (N:Int) (w:World) (hk:key.size≤140737488351232) (hv:val.size≤140737488351232) :
 Calls Tryz.prog 53 #[.agg #[.int .i64 T,.int .i64 R,.int .i64 K,.string key,.string val,.int .i64 N]] w fun e w'=>e=.returned (.agg #[.int .i64 T,.int .i64 R,.int .i64 K,.string key,.string val,.int .i64 N])∧Below w.heap.size w w':=by
 have hne:¬ w.heap.size+1=w.heap.size:=by omega
 have hne2:¬ w.heap.size=w.heap.size+1:=by omega
 have HW0:=hid (apL0 w T R K key val N);go_enter Tryz.func53,Tryz.ntmps53
 go_wp2;obtain ⟨u,hu⟩:∃ u,u=((w.alloc (.cells #[.int .i64 T,.int .i64 R,.int .i64 K,.string key,.string val,.int .i64 N] 38)).alloc (.cells #[.int .i64 0,.int .i64 0,.int .i64 0,.string ⟨#[]⟩,.string ⟨#[]⟩,.int .i64 0] 38)):=⟨_,rfl⟩;rw [←hu] at HW0 ⊢;have HW:Hid (ApL w u.drew T R K key val N):=hid (HW0.out.below (B:=u.heap.size) (Below.refl _ _).drew HW0.out.sz);have k0:=fj HW.out;clear hu HW0;go_region_held3 (fun w'=>w'.cell? ⟨w.heap.size,3,none⟩=some (.string key)∧w'.cell? ⟨w.heap.size,4,none⟩=some (.string val)) (first | exact k0 | exact k1 | exact k2 | exact k3 | exact k4 | fail) (first
  | (go_at_call 74;((with_reducible refine (ce key u.drew hk).mono ?_);rintro r w1 ⟨rfl,hb1⟩;have HW1:Hid (ApL w w1 T R K key val N):=hid (HW.out.call hb1);have k1:=fj HW1.out;clear hb1))
  | (go_at_call 74;((with_reducible refine (ce val u.drew hv).mono ?_);rintro r w1 ⟨rfl,hb1⟩;have HW1:Hid (ApL w w1 T R K key val N):=hid (HW.out.call hb1);have k1:=fj HW1.out;clear hb1))
  | (go_at_call 74;((with_reducible refine (ce key w1 hk).mono ?_);rintro r w2 ⟨rfl,hb2⟩;have HW2:Hid (ApL w w2 T R K key val N):=hid (HW1.out.call hb2);have k2:=fj HW2.out;have z3:=kG HW2.out 3;have z4:=kG HW2.out 4;have HW3:Hid (ApL w (w2.setCell ⟨w.heap.size,3,none⟩ (.string key)) T R K key val N):=hid (HW2.out.put rfl);have HW4:Hid (ApL w ((w2.setCell ⟨w.heap.size,3,none⟩ (.string key)).setCell ⟨w.heap.size,4,none⟩ (.string val)) T R K key val N):=hid (HW3.out.put rfl);have k3:=fj HW3.out;have k4:=fj HW4.out;clear hb2))
  | (go_at_call 74;((with_reducible refine (ce val w1 hv).mono ?_);rintro r w2 ⟨rfl,hb2⟩;have HW2:Hid (ApL w w2 T R K key val N):=hid (HW1.out.call hb2);have k2:=fj HW2.out;have z3:=kG HW2.out 3;have z4:=kG HW2.out 4;have HW3:Hid (ApL w (w2.setCell ⟨w.heap.size,3,none⟩ (.string key)) T R K key val N):=hid (HW2.out.put rfl);have HW4:Hid (ApL w ((w2.setCell ⟨w.heap.size,3,none⟩ (.string key)).setCell ⟨w.heap.size,4,none⟩ (.string val)) T R K key val N):=hid (HW3.out.put rfl);have k3:=fj HW3.out;have k4:=fj HW4.out;clear hb2))
  | fail)
 all_goals
  obtain ⟨W,hW⟩:∃ W,W=(w2.setCell ⟨w.heap.size,3,none⟩ (.string key)).setCell ⟨w.heap.size,4,none⟩ (.string val):=⟨_,rfl⟩;rw [←hW] at HW4 ⊢;have c0:W.cell? ⟨w.heap.size,0,none⟩=some (.int .i64 T):=cell_of_row _ _ 0 _ _ _ HW4.out.rowc;have c1:W.cell? ⟨w.heap.size,1,none⟩=some (.int .i64 R):=cell_of_row _ _ 1 _ _ _ HW4.out.rowc;have c2:W.cell? ⟨w.heap.size,2,none⟩=some (.int .i64 K):=cell_of_row _ _ 2 _ _ _ HW4.out.rowc;have c3:W.cell? ⟨w.heap.size,3,none⟩=some (.string key):=cell_of_row _ _ 3 _ _ _ HW4.out.rowc;have c4:W.cell? ⟨w.heap.size,4,none⟩=some (.string val):=cell_of_row _ _ 4 _ _ _ HW4.out.rowc;have c5:W.cell? ⟨w.heap.size,5,none⟩=some (.int .i64 N):=cell_of_row _ _ 5 _ _ _ HW4.out.rowc;have d0:W.cell? ⟨w.heap.size+1,0,none⟩=some (.int .i64 0):=cell_of_row _ _ 0 _ _ _ HW4.out.rowr;have d1:W.cell? ⟨w.heap.size+1,1,none⟩=some (.int .i64 0):=cell_of_row _ _ 1 _ _ _ HW4.out.rowr;have d2:W.cell? ⟨w.heap.size+1,2,none⟩=some (.int .i64 0):=cell_of_row _ _ 2 _ _ _ HW4.out.rowr;have d3:W.cell? ⟨w.heap.size+1,3,none⟩=some (.string ⟨#[]⟩):=cell_of_row _ _ 3 _ _ _ HW4.out.rowr;have d4:W.cell? ⟨w.heap.size+1,4,none⟩=some (.string ⟨#[]⟩):=cell_of_row _ _ 4 _ _ _ HW4.out.rowr;have d5:W.cell? ⟨w.heap.size+1,5,none⟩=some (.int .i64 0):=cell_of_row _ _ 5 _ _ _ HW4.out.rowr
  have z0:=gL HW4.out 0;have z1:=gL HW4.out 1;have z2:=gL HW4.out 2;have z3:=gL HW4.out 3;have z4:=gL HW4.out 4;have z5:=gL HW4.out 5;clear hW k0 k1 k2 k3 k4 HW3 HW2 HW1 HW;go_wp2;have hR:=C1 HW4.out.rowr (.int .i64 T) (.int .i64 R) (.int .i64 K) (.string key) (.string val) (.int .i64 N);obtain ⟨V,hV⟩:∃ V,V=((((((W.setCell ⟨w.heap.size+1,0,none⟩ (.int .i64 T)).setCell ⟨w.heap.size+1,1,none⟩ (.int .i64 R)).setCell ⟨w.heap.size+1,2,none⟩ (.int .i64 K)).setCell ⟨w.heap.size+1,3,none⟩ (.string key)).setCell ⟨w.heap.size+1,4,none⟩ (.string val)).setCell ⟨w.heap.size+1,5,none⟩ (.int .i64 N)):=⟨_,rfl⟩;have hbV:Below w.heap.size w V:=by rw [hV];exact (((((HW4.out.bel.setCell (by simp) _).setCell (by simp) _).setCell (by simp) _).setCell (by simp) _).setCell (by simp) _).setCell (by simp) _
  rw [←hV] at hR ⊢;clear hV;refine bodyPost_ret (v:=.agg #[.int .i64 T,.int .i64 R,.int .i64 K,.string key,.string val,.int .i64 N]) (results_cell_row Tryz.results53 _ _ (w.heap.size+1) 38 _ _ _ rfl hR Tryz.underlying38 rfl (C2 _ _ _ _ _ _)) rfl ?_;exact ⟨rfl,hbV⟩
theorem nc (v:Value) (l:List Wr) (w:World) (hv:aD w v l) (hl:l.length≤100000) (hok:∀ x∈l,x.key.size≤140737488351232∧x.value.size≤140737488351232) :
 Calls Tryz.prog 39 #[v] w fun e w'=>∃ u,e=.returned u∧aq w' w.heap.size u l∧Below w.heap.size w w'∧(l=[]→u=.slice none 0 0):=by
 obtain ⟨a,c,rfl,hf⟩:=hv.form;have HF:=hid hf;have HOK:=hid hok;obtain ⟨n,hn⟩:∃ n,n=l.length:=⟨_,rfl⟩;rw [←hn] at hl ⊢;have HN:=hid hn;clear hv hf hok hn;go_enter Tryz.func39,Tryz.ntmps39
 go_wp2
 go_loopw [3,8] (fun lv i wr=>∃ k:Nat,k≤n∧i=.int .i64 k∧aq wr w.heap.size lv (l.take k)∧Below w.heap.size w wr∧(k=0→lv=.slice none 0 0)) (fun _ i _=>n-(intOf i).toNat)
 case atStart=>exact ⟨0,by omega,rfl,fT _ _,Below.refl _ _,fun _=>rfl⟩
 case round =>
  obtain ⟨k,hk,rfl,ho,hb,hz⟩:=hrel;have HO:=hid ho;have HB:=hid hb;have HSR:=hid hb.size;have HZ:=hid hz;clear ho hb hz;by_cases hlt:k<n
  ·have b1:decide ((k:Int)<(n:Int))=true:=by simpa using hlt
   obtain ⟨x, hx⟩ : ∃ x, l[k]? = some x := ⟨l[k]'(by rw [← HN.out]; exact hlt), List.getElem?_eq_getElem _⟩;obtain ⟨b,off,rfl,hbl,c0,c1,c2,c3,c4,c5⟩:=HF.out k x hx;have hsz:=HOK.out x (List.mem_of_getElem? hx);have HTS:Hid (l.take (k+1)=l.take k++[x]):=hid (by rw [List.take_add_one,hx];rfl);have hkl:(l.take k).length=k:=by rw [List.length_take,←HN.out];omega
   obtain ⟨T,Re,K,key,val,N⟩:=x;simp only at c0 c1 c2 c3 c4 c5 hsz
   obtain ⟨hks,hvs⟩:=hsz;have d:∀ j u,w.cell? ⟨b,j,none⟩=some u→wr.cell? ⟨b,j,none⟩=some u:=fun j u hu=>(HB.out.cell (p:=⟨b,j,none⟩) hbl).trans hu
   have e0:=d _ _ c0;have e1:=d _ _ c1;have e2:=d _ _ c2;have e3:=d _ _ c3;have e4:=d _ _ c4;have e5:=d _ _ c5;obtain ⟨L,hL⟩:∃ L,L=l.take k:=⟨_,rfl⟩;rw [←hL] at HO HTS hkl;have HKL:=hid hkl;clear hx c0 c1 c2 c3 c4 c5 d hbl hL hkl;go_wp2_with (first
    | (go_at_call 53;refine (oo T Re K key val N _ hks hvs).mono ?_;rintro r w3 ⟨rfl,hb3⟩;have HB3:Hid (Below wr.heap.size wr w3):=hid (((Below.refl _ _).alloc (Nat.le_refl _) _).trans (hb3.mono (by simp)));clear hb3)
    | (at_builtin;refine mP rfl _ _ rfl w.heap.size _ L rfl ((HO.out.below HB3.out).alloc _) w3.heap.size 1 rfl ⟨T,Re,K,key,val,N⟩ (heap_alloc_new _ _) (by have:=HKL.out;omega) (by have:=HSR.out;have:=HB3.out.size;simp;omega) ?_;intro g cap w4 ho4 hg4;have HO4:=hid ho4;have HG4:=hid hg4;clear ho4 hg4))
   go_roundw
   ·refine ⟨k+1,by omega,by simp,?_,?_,fun h=>by omega⟩
    ·rw [HTS.out];exact HO4.out
    ·exact ((HB.out.trans (HB3.out.mono HSR.out)).alloc (Nat.le_trans HSR.out HB3.out.size) _).grown HG4.out (by have:=HSR.out;have:=HB3.out.size;simp;omega) (fun g hg=>(HO.out.lt g hg).1)
   ·simp [intOf];omega
  ·have b1:decide ((k:Int)<(n:Int))=false:=by simp;omega
   obtain rfl:k=n:=by omega
   have HT:Hid (aq wr w.heap.size u3 l):=hid (by have:=HO.out;rwa [List.take_of_length_le (by rw [HN.out];exact Nat.le_refl _)] at this);go_wp2;go_ret;exact ⟨_,rfl,HT.out,HB.out,fun h=>HZ.out (by rw [HN.out,h];rfl)⟩
end
section
open Go.RowKit
theorem GT (v:Value) (l:List Ent) (k:Nat) (e:Ent) (last:Int) (w:World) (hv:ag w v l) (hl:l.length≤1000000) (he:l[k]? = some e) (h0:(k=0∧last=-1)∨∃ j d,k=j+1∧l[j]? = some d∧last=d.rep) :
 Calls Tryz.prog 43 #[v,.int .i64 (k:Int)] w fun r w'=>r=.returned (.int .i64 (wrE e last:Nat))∧Below w.heap.size w w':=by
 obtain ⟨a1,c1,rfl,f1⟩:=hv.form;obtain ⟨n,hn⟩:∃ n,n=l.length:=⟨_,rfl⟩;have hkl:k<n:=by rw [hn];exact (List.getElem?_eq_some_iff.1 he).1
 rw [←hn] at hl ⊢;obtain ⟨b1,o1,rfl,hb1,p0,p1⟩:=f1 k e he;obtain ⟨rep,time⟩:=e;simp only at p0 p1
 by_cases hr:rep<0∨200<rep∨time<1∨1099511627776<time
 ·have HW:Hid (wrE ⟨rep,time⟩ last=2):=hid (Hr hr);have HR:=hid hr;clear hv f1 hn he h0 hr;rw [HW.out];by_cases h1:rep<0
  ·go_enter Tryz.func43,Tryz.ntmps43
   go_wp2;go_ret;exact ⟨rfl,(Below.refl _ _).alloc (Nat.le_refl _) _⟩
  ·by_cases h2:200<rep
   ·go_enter Tryz.func43,Tryz.ntmps43
    go_wp2;go_ret;exact ⟨rfl,(Below.refl _ _).alloc (Nat.le_refl _) _⟩
   ·by_cases h3:time<1
    ·go_enter Tryz.func43,Tryz.ntmps43
     go_wp2;go_ret;exact ⟨rfl,(Below.refl _ _).alloc (Nat.le_refl _) _⟩
    ·have h4:1099511627776<time:=by have:=HR.out;omega
     go_enter Tryz.func43,Tryz.ntmps43
     go_wp2;go_ret;exact ⟨rfl,(Below.refl _ _).alloc (Nat.le_refl _) _⟩
 ·have g1:0≤rep:=by omega
  have g2:rep≤200:=by omega
  have g3:1≤time:=by omega
  have g4:time≤1099511627776:=by omega
  rcases h0 with ⟨hk0,rfl⟩ | ⟨j,d,rfl,hd,rfl⟩
  ·have HW:Hid (wrE ⟨rep,time⟩ (-1)=0):=hid (x3 hr (by simp only;omega));have z1:¬ 0<k:=by omega
   have z2:decide (0<k)=false:=by simp;omega
   have z3:decide ((0:Int)<(k:Int))=false:=by simp;omega
   clear hv f1 hn he hr hk0;rw [HW.out];go_enter Tryz.func43,Tryz.ntmps43
   go_wp2
   go_quiet (fail)
   go_wp2;go_ret;exact ⟨rfl,below_drewN ((Below.refl _ _).alloc (Nat.le_refl _) _) _⟩
  ·obtain ⟨b2,o2,hbo,_,q0,_⟩:=f1 j d hd;simp only [Option.some.injEq,Addr.mk.injEq,and_true] at hbo
   obtain ⟨rfl,rfl⟩:=hbo;obtain ⟨last,dt⟩:=d;simp only at q0
   obtain ⟨k,hk⟩:∃ k,k=j+1:=⟨_,rfl⟩;rw [←hk] at he hkl p0 p1 ⊢;have hj1:(k:Int)-1=(j:Int):=by omega
   have hj2:IntKind.i64.wrap ((k:Int)-1)=(j:Int):=by rw [hj1];exact IntWalk.i64_in _ (by omega)
   have hk0:(0:Int)<(k:Int):=by omega
   have z1:0<k:=by omega
   have z2:decide (0<k)=true:=by simp;omega
   have z3:decide ((0:Int)<(k:Int))=true:=by simp;omega
   have hjn:(j:Int)<(n:Int):=by omega
   have hjn':j<n:=by omega
   have hj0:(0:Int)≤(j:Int):=by omega
   have q0':=(World.cell?_alloc_lt w (.cells #[.int .i64 rep,.int .i64 time] 58) (⟨b1,o1+j * 2,none⟩:Addr) hb1).trans q0;by_cases h5:rep≤last
   ·have HW:Hid (wrE ⟨rep,time⟩ (Ent.mk last dt).rep=10):=hid (Hq hr h5);clear hv f1 hn he hr hd hk;rw [HW.out];go_enter Tryz.func43,Tryz.ntmps43
    go_wp2
    go_quiet (fail)
    go_wp2;go_ret;exact ⟨rfl,below_drewN ((Below.refl _ _).alloc (Nat.le_refl _) _) _⟩
   ·have HW:Hid (wrE ⟨rep,time⟩ (Ent.mk last dt).rep=0):=hid (x3 hr h5);clear hv f1 hn he hr hd hk;rw [HW.out];go_enter Tryz.func43,Tryz.ntmps43
    go_wp2
    go_quiet (fail)
    go_wp2;go_ret;exact ⟨rfl,below_drewN ((Below.refl _ _).alloc (Nat.le_refl _) _) _⟩
theorem GR (v:Value) (l:List Ent) (w:World) (hv:ag w v l) (hl:l.length≤16) :
 Calls Tryz.prog 20 #[v] w (kD w (vr l 0 (-1))):=by
 have HV:=hid hv;obtain ⟨a1,c1,rfl,f1⟩:=hv.form;obtain ⟨n,hn⟩:∃ n,n=l.length:=⟨_,rfl⟩;rw [←hn] at hl HV ⊢;have HN:=hid hn;clear hv f1 hn;go_enter Tryz.func20,Tryz.ntmps20
 go_wp2
 go_loopw [11] (fun i wr=>∃ (k:Nat) (last:Int),k≤n∧i=.int .i64 k∧((k=0∧last=-1)∨∃ j d,k=j+1∧l[j]? = some d∧last=d.rep)∧vr l 0 (-1)=vr (l.drop k) k last∧Below w.heap.size w wr) (fun i _=>n-(intOf i).toNat)
 case atStart=>exact ⟨0,-1,by omega,rfl,.inl ⟨rfl,rfl⟩,rfl,Below.refl _ _⟩
 case round =>
  obtain ⟨k,last,hk,rfl,hla,heq,hbel⟩:=hrel;have HEQ:=hid heq;have HLA:=hid hla;have HB:=hid hbel;have hzr:=hbel.size;clear heq hbel hla;by_cases hlt:k<n
  ·have hkl:k<l.length:=by have:=HN.out;omega
   obtain ⟨t,ht⟩:∃ t,l[k]? = some t:=⟨l[k],List.getElem?_eq_getElem hkl⟩;have hd:l.drop k=t::l.drop (k+1):=by
    rw [List.drop_eq_getElem_cons hkl];congr 1;rw [List.getElem?_eq_getElem hkl] at ht;exact Option.some.inj ht
   have HD:=hid hd;have HT:=hid ht;obtain ⟨e,he⟩:∃ e,wrE t last=e:=⟨_,rfl⟩;have HE:=hid he;clear ht hkl hd he;go_wp2_with fail
   refine (GT _ l k t last _ (HV.out.below (HB.out.mono (Nat.le_refl _))) (by have:=HN.out;omega) HT.out HLA.out).mono ?_;rintro r w1 ⟨rfl,hb1⟩;rw [HE.out];have HB1:Hid (Below w.heap.size w w1):=HB.out.trans (hb1.mono hzr);have hz1:=HB1.out.size;clear hb1;by_cases h0:e=0
   ·subst h0;have HN2:Hid (vr l 0 (-1)=vr (l.drop (k+1)) (k+1) t.rep):=hid (show vr l 0 (-1)=vr (l.drop (k+1)) (k+1) t.rep by rw [HEQ.out,HD.out,pI HE.out]);go_wp2;go_roundw
    case rel=>exact ⟨k+1,t.rep,by omega,by go_num,.inr ⟨k,t,rfl,HT.out,rfl⟩,HN2.out,HB1.out⟩
    case measure=>simp [intOf];omega
   ·have HN2:Hid (vr l 0 (-1)=(e,(k:Int))):=hid (show vr l 0 (-1)=(e,(k:Int)) by rw [HEQ.out,HD.out,pH (by rw [HE.out];exact h0),HE.out]);have hne:((e:Int) != 0)=true:=by simp;omega
    have H0:=hid h0;clear h0;go_wp2;go_ret;rw [HN2.out];exact ⟨_,rfl,atIs.new w1 e k H0.out,HB1.out.alloc hz1 _⟩
  ·have HN2:Hid (vr l 0 (-1)=(0,-1)):=hid (show vr l 0 (-1)=(0,-1) by rw [HEQ.out,List.drop_eq_nil_of_le (by have:=HN.out;omega)];rfl);go_wp2;go_ret;exact ⟨_,rfl,.inl ⟨HN2.out,rfl⟩,HB.out⟩
theorem dF (v:Value) (l:List Ent) (w:World) (hv:ag w v l) (hl:l.length≤9223372036854775807) :
 Calls Tryz.prog 20 #[v] w (iF w (ar l)):=by
 by_cases h:16<l.length
 ·have HW:Hid (ar l=(4,-1)):=hid (show ar l=(4,-1) by unfold ar;rw [if_pos h]);obtain ⟨a1,c1,rfl,_⟩:=hv.form;obtain ⟨n,hn⟩:∃ n,n=l.length:=⟨_,rfl⟩;rw [←hn] at h hl ⊢;clear hv hn;rw [HW.out];have h2:16<(n:Int):=by omega
  go_enter Tryz.func20,Tryz.ntmps20
  go_wp2;go_ret;exact ⟨_,rfl,.inr ⟨by decide,rfl,rfl⟩,Below.refl _ _⟩
 ·refine (GR v l w hv (by omega)).mono ?_;rintro e w' ⟨x,h1,h2,h3⟩;refine ⟨x,h1,.inl ?_,h3⟩;unfold ar;rw [if_neg h];exact h2
end
