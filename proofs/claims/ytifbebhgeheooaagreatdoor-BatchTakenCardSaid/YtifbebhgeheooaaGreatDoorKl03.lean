import Derived.Test.YtifbebhgeheooaaGreatDoorKl02
import Derived.Laws.BitsAllLaws
import Derived.Deep.QuietTactic
import Derived.Outline
import Derived.Lib.Builder
import Derived.Lib.AppendStr
import Derived.Lib.UnsafeStr
import Derived.Deep.RegionHeld3
import Derived.StillTailTactics
namespace Go.Proofs.YtifbebhgeheooaaGreatDoor
def consec:Int→List Ent→Prop
 | _,[]=>True
 | r,e :: t=>e.rep=r∧consec (r + 1) t
theorem consec_snoc {l:List Ent} {e:Ent}:∀ {r:Int},consec r l→e.rep=r + l.length→consec r (l ++ [e]):=by
 induction l with
 | nil=>intro r _ h;exact ⟨by simpa using h,trivial⟩
 | cons d t ih=>intro r h he;exact ⟨h.1,ih h.2 (by rw [he,List.length_cons];omega)⟩
theorem consec_last {l:List Ent}:∀ {r:Int},consec r l→l≠[]→(l.getLastD ⟨0,0⟩).rep=r + l.length - 1:=by
 induction l with
 | nil=>intro r _ h0;exact absurd rfl h0
 | cons e t ih =>
   intro r h _
   cases t with
   | nil=>have:=h.1;simp;omega
   | cons d u =>
     have h3:=ih h.2 (by simp)
     rw [List.getLastD_cons] at h3 ⊢
     rw [List.getLastD_cons]
     simp only [List.length_cons] at h3 ⊢
     omega
def isRuns:Int→List (List Ent)→Prop
 | _,[]=>True
 | least,run :: rs=>run≠[]∧least≤(run.headD ⟨0,0⟩).rep∧consec (run.headD ⟨0,0⟩).rep run∧isRuns ((run.getLastD ⟨0,0⟩).rep + 2) rs
def cutA:List Ent→List Ent→List (List Ent)
 | _,[]=>[]
 | cur,[e]=>[cur ++ [e]]
 | cur,e :: d :: r=>if e.rep + 1 < d.rep then (cur ++ [e]) :: cutA [] (d :: r) else cutA (cur ++ [e]) (d :: r)
def runsL (l:List Ent):List (List Ent):=cutA [] l
theorem cutA_one (cur:List Ent) (e:Ent):cutA cur [e]=[cur ++ [e]]:=rfl
theorem cutA_cut {cur r:List Ent} {e d:Ent} (h:e.rep + 1 < d.rep):cutA cur (e :: d :: r)=(cur ++ [e]) :: cutA [] (d :: r):=by rw [cutA,if_pos h]
theorem cutA_on {cur r:List Ent} {e d:Ent} (h:¬ e.rep + 1 < d.rep):cutA cur (e :: d :: r)=cutA (cur ++ [e]) (d :: r):=by rw [cutA,if_neg h]
theorem headD_app {l:List Ent} (m:List Ent) (h:l≠[]) (d:Ent):(l ++ m).headD d=l.headD d:=by
 cases l with
 | nil=>exact absurd rfl h
 | cons e t=>rfl
theorem getLastD_snoc (l:List Ent) (e d:Ent):(l ++ [e]).getLastD d=e:=by
 simp
theorem cutA_is (r:List Ent):∀ (cur:List Ent) (e:Ent) (least last:Int),okV last (e :: r)→(cur=[]→least≤e.rep)→(cur≠[]→least≤(cur.headD ⟨0,0⟩).rep∧consec (cur.headD ⟨0,0⟩).rep cur∧e.rep=(cur.headD ⟨0,0⟩).rep + cur.length) →
   isRuns least (cutA cur (e :: r))∧(cutA cur (e :: r)).flatten=cur ++ e :: r:=by
 induction r with
 | nil =>
   intro cur e least last h h0 h1
   rw [cutA_one]
   refine ⟨⟨by simp,?_,?_,trivial⟩,by simp⟩
   · by_cases hc:cur=[]
     · subst hc;exact h0 rfl
     · rw [headD_app _ hc];exact (h1 hc).1
   · by_cases hc:cur=[]
     · subst hc;exact ⟨rfl,trivial⟩
     · rw [headD_app _ hc];exact consec_snoc (h1 hc).2.1 (h1 hc).2.2
 | cons d r ih =>
   intro cur e least last h h0 h1
   have hd:=h.2.1
   rw [wrE_ok] at hd
   have hcons:consec ((cur ++ [e]).headD ⟨0,0⟩).rep (cur ++ [e]):=by
     by_cases hc:cur=[]
     · subst hc;exact ⟨rfl,trivial⟩
     · rw [headD_app _ hc];exact consec_snoc (h1 hc).2.1 (h1 hc).2.2
   have hlow:least≤((cur ++ [e]).headD ⟨0,0⟩).rep:=by
     by_cases hc:cur=[]
     · subst hc;exact h0 rfl
     · rw [headD_app _ hc];exact (h1 hc).1
   by_cases hg:e.rep + 1 < d.rep
   · rw [cutA_cut hg]
     obtain ⟨i1,i2⟩:=ih [] d (e.rep + 2) e.rep h.2 (fun _=>by omega) (fun hn=>absurd rfl hn)
     refine ⟨⟨by simp,hlow,hcons,?_⟩,?_⟩
     · rw [getLastD_snoc];exact i1
     · rw [List.flatten_cons,i2];simp
   · rw [cutA_on hg]
     obtain ⟨i1,i2⟩:=ih (cur ++ [e]) d least e.rep h.2 (fun hn=>absurd hn (by simp)) (fun _=>⟨hlow,hcons,by
       have:=consec_last hcons (by simp)
       rw [getLastD_snoc] at this
       omega⟩)
     exact ⟨i1,by rw [i2];simp⟩
theorem runs_is {l:List Ent} (h:okV (-1) l):isRuns 0 (runsL l)∧(runsL l).flatten=l:=by
 cases l with
 | nil=>exact ⟨trivial,rfl⟩
 | cons e r =>
   have:=h.1
   rw [wrE_ok] at this
   have h2:=cutA_is r [] e 0 (-1) h (fun _=>by omega) (fun hn=>absurd rfl hn)
   exact h2
def timesB (l:List Ent):List UInt8:=l.flatMap fun e=>putL e.time.toNat
def runB (least:Int) (run:List Ent):List UInt8:=putL ((run.headD ⟨0,0⟩).rep - least).toNat ++ putL (run.length - 1) ++ timesB run
def runsB:Int→List (List Ent)→List UInt8
 | _,[]=>[]
 | least,run :: rs=>runB least run ++ runsB ((run.getLastD ⟨0,0⟩).rep + 2) rs
def vwriteL (l:List Ent):List UInt8:=putL (runsL l).length ++ runsB 0 (runsL l)
def vwriteF (l:List Ent):List UInt8:=if (vrightF l).1=0 then vwriteL l else []
theorem timesB_cons (e:Ent) (l:List Ent):timesB (e :: l)=putL e.time.toNat ++ timesB l:=by simp [timesB]
theorem timesB_app (a b:List Ent):timesB (a ++ b)=timesB a ++ timesB b:=by simp [timesB]
end Go.Proofs.YtifbebhgeheooaaGreatDoor
namespace Go.Proofs.YtifbebhgeheooaaGreatDoor
open Go.RowKit
def hiB (m:Nat):UInt8:=UInt8.ofNat (m % 128 + 128)
theorem high_byte (m:Nat):bits .or .u8 ((m:Int) % 256) 128=((hiB m).toNat:Int):=by
 unfold hiB
 have e:(m:Int) % 256=((m % 256:Nat):Int):=by omega
 rw [e,show (128:Int)=((128:Nat):Int) from rfl,u8_or_nat _ _ (by omega) (by omega),toNat_ofNat_lt (by omega)]
 congr 1
 have h1:m % 256=2 ^ 7 * (m / 128 % 2) + m % 128:=by omega
 rw [h1,Nat.two_pow_add_eq_or_of_lt (by omega),Nat.or_assoc,Nat.or_comm (m % 128),←Nat.or_assoc]
 have h3:2 ^ 7 * (m / 128 % 2) ||| 128=2 ^ 7 * 1:=by
   have:m / 128 % 2=0∨m / 128 % 2=1:=by omega
   rcases this with h | h <;> rw [h] <;> decide
 rw [h3,←Nat.two_pow_add_eq_or_of_lt (by omega)]
 omega
theorem make10 (w:World):(Instr.makeSlice 155 (.int .i64 0) (.int .i64 10)).run Tryz.prog w=.ok (.slice (some ⟨w.heap.size,0,none⟩) 0 10) (w.alloc (.cells #[.int .u8 0,.int .u8 0,.int .u8 0,.int .u8 0,.int .u8 0,.int .u8 0,.int .u8 0,.int .u8 0,.int .u8 0,.int .u8 0] 5)):=by kernel_rfl
set_option maxRecDepth 100000 in
set_option maxHeartbeats 1000000 in
theorem put_any (n:Int) (w:World) (h0:0≤n) (h1:n≤18446744073709551615) :
   Calls Tryz.prog 98 #[.int .u64 n] w fun e w'=>e=.returned (.string ⟨(putL n.toNat).toArray⟩)∧Below w.heap.size w w':=by
 obtain ⟨N,rfl⟩:=Int.eq_ofNat_of_zero_le h0
 rw [Int.toNat_natCast]
 have hmk:=make10
 go_enter Tryz.func98,Tryz.ntmps98
 go_wp2
 go_loopw [0,3] (fun n b wr=>∃ (m:Nat) (pre:List UInt8),n=.int .u64 m∧m≤18446744073709551615∧pre ++ putL m=putL N∧ownsB wr w.heap.size b pre∧Below w.heap.size w wr) (fun n _ _=>(intOf n).toNat)
 case atStart=>exact ⟨N,[],rfl,by omega,rfl,World.ownsRow_made w _ 10 (Nat.le_refl _) (by unfold maxLen;omega) rfl,(Below.refl _ _).alloc (Nat.le_refl _) _⟩
 case round =>
   obtain ⟨m,pre,rfl,hm,hput,hown,hbel⟩:=hrel
   have HP:=Lib.hid hput
   clear hput hmk
   have hlen:pre.length + 1≤10:=by
     have h2:=putL_le10 (n:=N) (by omega)
     rw [←HP.out,List.length_append] at h2
     have:=putL_pos m
     omega
   by_cases hlt:m < 128
   · go_wp2_with (at_builtin;refine wpList_append_byte rfl _ _ rfl w.heap.size _ pre rfl (hown.alloc _) ⟨wr.heap.size,0,none⟩ 1 rfl (m:Int) (UInt8.ofNat m) ?c1 ?c2 ?c3 ?c4 ?_)
     case c1=>simp [Addr.add]
     case c2=>rw [toNat_ofNat_lt (by omega)]
     case c3=>omega
     case c4=>have:=hbel.size;simp;omega
     · intro v' w1 hown1 hg1 _
       have hcv:=run_string_ownsB hown1
       have hb1:Below w.heap.size w w1:=(hbel.alloc hbel.size _).grown hg1 (by have:=hbel.size;simp;omega) (fun k hk=>(World.ownsRow.lt hown k hk).1)
       clear hown1 hg1
       go_wp2
       go_ret
       refine ⟨?_,hb1⟩
       have e:pre ++ [UInt8.ofNat m]=putL N:=by rw [←putL_small hlt];exact HP.out
       rw [←e];rfl
   · go_wp2_with (at_builtin;refine wpList_append_byte rfl _ _ rfl w.heap.size _ pre rfl (hown.alloc _) ⟨wr.heap.size,0,none⟩ 1 rfl (bits .or .u8 ((m:Int) % 256) 128) (hiB m) ?d1 ?d2 ?d3 ?d4 ?_)
     case d1=>simp [Addr.add]
     case d2=>exact high_byte m
     case d3=>omega
     case d4=>have:=hbel.size;simp;omega
     · intro v' w1 hown1 hg1 _
       have hb1:Below w.heap.size w w1:=(hbel.alloc hbel.size _).grown hg1 (by have:=hbel.size;simp;omega) (fun k hk=>(World.ownsRow.lt hown k hk).1)
       clear hg1 hown
       go_wp2
       go_roundw
       case rel=>exact ⟨m / 128,pre ++ [hiB m],by go_num,by omega,by rw [List.append_assoc,List.singleton_append,hiB,←putL_big hlt];exact HP.out,hown1,hb1⟩
       case measure=>simp [intOf];omega
end Go.Proofs.YtifbebhgeheooaaGreatDoor
namespace Go.Proofs.YtifbebhgeheooaaGreatDoor
open Go.RowKit
theorem ownsS.slice {w:World} {base:Nat} {v:Value} {l:List ByteArray} (h:ownsS w base v l):∃ a c,v=.slice a l.length c:=by
 rcases h.forms with ⟨rfl,rfl⟩ | ⟨g,cap,rfl,_⟩
 · exact ⟨none,0,rfl⟩
 · exact ⟨_,cap,rfl⟩
theorem ownsS.at {w:World} {base n c:Nat} {a:Option Addr} {l:List ByteArray} (h:ownsS w base (.slice a n c) l) (h0:0 < l.length):∃ g,a=some ⟨g,0,none⟩∧base≤g:=by
 rcases h.forms with ⟨_,rfl⟩ | ⟨g,cap,e,hb,_⟩
 · exact absurd h0 (by simp)
 · obtain ⟨e1,_⟩:=Value.slice.inj e
   exact ⟨g,e1,hb⟩
theorem ownsS.setC {w:World} {base B i:Nat} {v:Value} {l:List ByteArray} (h:ownsS w base v l) (z:Value) (hne:v.ownBlock≠some B):ownsS (w.setCell ⟨B,i,none⟩ z) base v l :=
 World.ownsRow.kept h (row:=some B) ⟨rfl,rfl,rfl,by rw [show (w.setCell ⟨B,i,none⟩ z).heap.size=w.heap.size from by simp];exact Nat.le_refl _,fun k _ hk=>heap_setCell_other _ _ _ _ (fun e=>hk (by rw [e]))⟩ (.inr hne)
theorem below_gr {w W:World} (h:w.grownBy W none):Below w.heap.size w W:=⟨h.os,h.tape,h.output,h.size,fun k hk=>h.block k hk (by simp)⟩
end Go.Proofs.YtifbebhgeheooaaGreatDoor
namespace Go.Proofs.YtifbebhgeheooaaGreatDoor
open Go.RowKit
theorem ofF_dropI {l:List Ent} {k:Nat} {t:Ent} (h:l[k]? = some t) (x:Int):ofF (l.drop k) x=if t.rep=x then t.time else ofF (l.drop (k + 1)) x:=by
 obtain ⟨hk,ht⟩:=List.getElem?_eq_some_iff.1 h
 rw [List.drop_eq_getElem_cons hk,ht];rfl
set_option maxRecDepth 100000 in
set_option maxHeartbeats 2000000 in
theorem vofI_any (v:Value) (l:List Ent) (x:Int) (w:World) (hv:IsEnts w v l) (hl:l.length≤9223372036854775807) :
   Calls Tryz.prog 52 #[v,.int .i64 x] w fun r w'=>r=.returned (.int .i64 (ofF l x))∧Below w.heap.size w w':=by
 obtain ⟨a1,c1,rfl,f1⟩:=hv.form
 have F1:=Lib.hid f1
 obtain ⟨n,hn⟩:∃ n,n=l.length:=⟨_,rfl⟩
 rw [←hn] at hl ⊢
 have HN:=Lib.hid hn
 clear hv f1 hn
 go_enter Tryz.func52,Tryz.ntmps52
 go_wp2
 go_loopw [9] (fun i wr=>∃ k:Nat,k≤n∧i=.int .i64 k∧ofF l x=ofF (l.drop k) x∧Below w.heap.size w wr) (fun i _=>n - (intOf i).toNat)
 case atStart=>exact ⟨0,by omega,rfl,rfl,Below.refl _ _⟩
 case round =>
   obtain ⟨k,hk,rfl,heq,hbel⟩:=hrel
   have HEQ:=Lib.hid heq
   have HB:=Lib.hid hbel
   have hzr:=hbel.size
   clear heq hbel
   by_cases hlt:k < n
   · obtain ⟨t, ht⟩ : ∃ t, l[k]? = some t := ⟨l[k]'(by have := HN.out; omega), List.getElem?_eq_getElem _⟩
     obtain ⟨b1,o1,rfl,hb1,p0,p1⟩:=F1.out k t ht
     have hd:=ofF_dropI ht x
     obtain ⟨rep,time⟩:=t
     simp only at p0 p1 hd
     have q0:=(HB.out.cell (p:=⟨b1,o1 + k * 2,none⟩) hb1).trans p0
     have q1:=(HB.out.cell (p:=⟨b1,o1 + k * 2 + 1,none⟩) hb1).trans p1
     by_cases hx:rep=x
     · have HW:Hid (ofF l x=time):=Lib.hid (show ofF l x=time by rw [HEQ.out,hd,if_pos hx])
       clear p0 p1 ht hd
       subst hx
       go_wp2
       go_ret
       exact ⟨by rw [HW.out];rfl,HB.out.alloc hzr _⟩
     · have HW:Hid (ofF l x=ofF (l.drop (k + 1)) x):=Lib.hid (show ofF l x=ofF (l.drop (k + 1)) x by rw [HEQ.out,hd,if_neg hx])
       have bx:(rep == x)=false:=by simpa using hx
       clear p0 p1 ht hd
       go_wp2
       go_roundw
       case rel=>exact ⟨k + 1,by omega,by go_num,HW.out,HB.out.alloc hzr _⟩
       case measure=>simp [intOf];omega
   · have HW:Hid (ofF l x=0):=Lib.hid (show ofF l x=0 by rw [HEQ.out,List.drop_eq_nil_of_le (by have:=HN.out;omega)];rfl)
     go_wp2
     go_ret
     exact ⟨by rw [HW.out];rfl,HB.out⟩
theorem vofI_as (v:Value) (l:List Ent) (x y:Int) (w:World) (hv:IsEnts w v l) (hl:l.length≤9223372036854775807) (h:ofF l x=y) :
   Calls Tryz.prog 52 #[v,.int .i64 x] w fun r w'=>r=.returned (.int .i64 y)∧Below w.heap.size w w':=by
 subst h;exact vofI_any v l x w hv hl
end Go.Proofs.YtifbebhgeheooaaGreatDoor
namespace Go.Proofs.YtifbebhgeheooaaGreatDoor
open Go.ChangeShapes Go.WideShapes Go.ChangeAt Go.RowKit
theorem laidOutE:laidOutB Tryz.prog=true:=by kernel_rfl
instance : Inhabited Ent := ⟨⟨0, 0⟩⟩
theorem two_fields {H:Type} {enc:TypeId×Value→H} {P:Program} {W:World} {spare:Nat→Bool} {held:Bool} {n:Nat} {t:TypeId} {cs:List Value} {x:DataW H×List MemPlace} {p q:Field}
   (ht:P.underlying t=some (.struct #[p,q])) (h1:Go.Deep.oneCellFields P #[p,q]=true) (h3:P.cellsOf t=2)
   (h:DataW.trod enc P W 0 spare held n t cs=some x) :
   ∃ (a b:Value) (u v:DataW H×List MemPlace) (m:Nat),cs=[a,b]∧x.1=.agg [u.1,v.1] ∧
     DataW.trod enc P W 0 spare held m p.type [a]=some u∧DataW.trod enc P W 0 spare held m q.type [b]=some v:=by
 obtain ⟨xs,m,_,hx,hl,hxl,hf⟩:=DataW.trod_struct ht h
 rw [h3] at hl
 have hxl':xs.length=2:=hxl
 match cs,hl with
 | [a,b],_ =>
   match xs,hxl' with
   | [u,v],_ =>
     have one:=Go.Deep.hone_of h1
     have g0:=hf 0 p rfl
     have g1:=hf 1 q rfl
     rw [(one 0 p rfl).1,(one 0 p rfl).2] at g0
     rw [(one 1 q rfl).1,(one 1 q rfl).2] at g1
     exact ⟨a,b,u,v,m,rfl,by rw [hx];rfl,g0,g1⟩
theorem ent_elem {H:Type} {enc:TypeId×Value→H} {W:World} {spare:Nat→Bool} {held:Bool} {n:Nat} {cs:List Value} {x:DataW H×List MemPlace}
   (h:DataW.trod enc Tryz.prog W 0 spare held n 34 cs=some x):∃ t:Ent,cs=entC t:=by
 obtain ⟨a,b,u,v,m,rfl,hx,g0,g1⟩:=two_fields Tryz.underlying34 (by kernel_rfl) (by kernel_rfl) h
 obtain ⟨k,e0,f0,_⟩:=DataW.trod_int Tryz.underlying3 g0
 obtain ⟨z,e1,f1,_⟩:=DataW.trod_int Tryz.underlying3 g1
 have e0':a=.int .i64 k:=List.head_eq_of_cons_eq e0
 have e1':b=.int .i64 z:=List.head_eq_of_cons_eq e1
 exact ⟨⟨k,z⟩,by rw [e0',e1'];rfl⟩
theorem entsArg {H:Type} {enc:TypeId×Value→H} {W:World} {spare:Nat→Bool} {held:Bool} {a0:Option Addr} {len0 cap0 fuel:Nat} {d:DataW H} {p:List MemPlace}
   (hf:DataW.trod enc Tryz.prog W 0 spare held fuel 35 [.slice a0 len0 cap0]=some (d,p)) :
   ∃ l:List Ent,IsEnts W (.slice a0 len0 cap0) l∧l.length=len0∧len0≤cap0∧cap0≤maxLen:=by
 rcases Go.Deep.open_slice Tryz.underlying35 hf with ⟨hcs,_⟩ | ⟨a,ln,cp,m,n,D,Pl,hcs,_,hl,hm,hmm,hx,hi⟩
 · simp only [List.cons.injEq,Value.slice.injEq,and_true] at hcs
   obtain ⟨rfl,rfl,rfl⟩:=hcs
   exact ⟨[],.inl ⟨_,_,rfl,rfl⟩,rfl,Nat.le_refl _,by unfold maxLen;omega⟩
 · simp only [List.cons.injEq,Value.slice.injEq,and_true] at hcs
   obtain ⟨rfl,rfl,rfl⟩:=hcs
   have h3:Tryz.prog.cellsOf 34=2:=by kernel_rfl
   rw [h3] at hi
   have hle:len0≤m:=by rw [hmm];split <;> omega
   obtain ⟨f,hfc⟩:=Go.Deep.choose_lt (n:=len0) (p:=fun i (t:Ent)=>W.cells? 0 (a.add (i * 2)) 2=some (entC t)) (fun i hlt=>by
     obtain ⟨cs',hc,ht⟩:=hi i (by omega)
     obtain ⟨t,h1⟩:=ent_elem ht
     exact ⟨t,by rw [hc,h1]⟩)
   have hll:((List.range len0).map f).length=len0:=by simp
   refine ⟨(List.range len0).map f,?_,hll,hl,hm⟩
   by_cases hz:len0=0
   · subst hz;exact .inl ⟨_,_,rfl,rfl⟩
   · obtain ⟨b,off,spot⟩:=a
     have hcell:∀ i,i < len0→∀ r,r < 2→W.cell? ((⟨b,off,spot⟩:Addr).add (i * 2 + r))=(entC (f i))[r]? := fun i hlt r hr=>by
       obtain ⟨_,_,hat⟩:=World.cells?_some (hfc i hlt)
       rw [←Go.Deep.add_add];exact hat r hr
     have h0:=hcell 0 (by omega) 0 (by omega)
     have hspot:spot=none:=by simpa [Addr.add] using World.cell?_spot (h0.trans rfl)
     subst hspot
     refine .inr ⟨b,off,cap0,by rw [hll],⟨by rw [hll];omega,by rw [hll];omega⟩,block_lt_of_cell (h0.trans rfl),fun j u hj=>?_⟩
     have hjl:j < len0 * 2:=by rw [←hll,←entsC_len];exact (List.getElem?_eq_some_iff.1 hj).1
     have hc:=hcell (j / 2) (by omega) (j % 2) (Nat.mod_lt _ (by decide))
     have hti:((List.range len0).map f)[j / 2]? = some (f (j / 2)):=by
       rw [List.getElem?_map,List.getElem?_range (by omega)];rfl
     have h5:=entsC_at _ _ (j % 2) _ hti (Nat.mod_lt _ (by decide))
     rw [show j / 2 * 2 + j % 2=j by omega] at hc h5
     rw [←h5,hj] at hc
     rw [←hc]
     refine congrArg W.cell? ?_
     unfold Addr.add
     split
     · rename_i e;rw [e];rfl
     · rfl
end Go.Proofs.YtifbebhgeheooaaGreatDoor
namespace Go.Proofs.YtifbebhgeheooaaGreatDoor
open Go.RowKit
theorem eq_step {l m:List Ent} {k:Nat} (h:l.take k=m.take k) {t u:Ent} (hl:l[k]? = some t) (hm:m[k]? = some u) (e:t=u):l.take (k + 1)=m.take (k + 1):=by
 obtain ⟨h1,h2⟩:=List.getElem?_eq_some_iff.1 hl
 obtain ⟨h3,h4⟩:=List.getElem?_eq_some_iff.1 hm
 rw [List.take_succ_eq_append_getElem h1,List.take_succ_eq_append_getElem h3,h,h2,h4,e]
set_option maxRecDepth 100000 in
set_option maxHeartbeats 1000000 in
theorem equal_entsL (v1 v2:Value) (l m:List Ent) (w:World) (h1:IsEnts w v1 l) (h2:IsEnts w v2 m) (hl:l.length≤9223372036854775807) (hm:m.length≤9223372036854775807) :
   Calls Tryz.prog 28 #[v1,v2] w fun e w'=>e=.returned (.bool (decide (l=m)))∧∃ q,w'=w.drewN q:=by
 obtain ⟨a1,c1,rfl,f1⟩:=h1.form
 obtain ⟨a2,c2,rfl,f2⟩:=h2.form
 have F1:=Lib.hid f1
 have F2:=Lib.hid f2
 obtain ⟨n,hn⟩:∃ n,n=l.length:=⟨_,rfl⟩
 obtain ⟨n2,hn2⟩:∃ n,n=m.length:=⟨_,rfl⟩
 rw [←hn] at hl ⊢
 rw [←hn2] at hm ⊢
 have HN:=Lib.hid hn
 have HN2:=Lib.hid hn2
 clear h1 h2 f1 f2 hn hn2
 by_cases hne:n=n2
 · subst hne
   go_enter Tryz.func28,Tryz.ntmps28
   go_wp2
   go_loopw [13] (fun i wr=>∃ k q:Nat,k≤n∧i=.int .i64 k∧l.take k=m.take k∧wr=w.drewN q) (fun i _=>n - (intOf i).toNat)
   case atStart=>exact ⟨0,0,by omega,rfl,rfl,rfl⟩
   case round =>
     obtain ⟨k,q,hk,rfl,htk,rfl⟩:=hrel
     have HTK:=Lib.hid htk
     clear htk
     by_cases hlt:k < n
     · obtain ⟨t, ht⟩ : ∃ t, l[k]? = some t := ⟨l[k]'(by have := HN.out; omega), List.getElem?_eq_getElem _⟩
       obtain ⟨u, hu⟩ : ∃ u, m[k]? = some u := ⟨m[k]'(by have := HN2.out; omega), List.getElem?_eq_getElem _⟩
       obtain ⟨b1,o1,rfl,_,p0,p1⟩:=F1.out k t ht
       obtain ⟨b2,o2,rfl,_,q0,q1⟩:=F2.out k u hu
       have HTT:=Lib.hid ht
       have HUU:=Lib.hid hu
       clear ht hu
       obtain ⟨r1,t1⟩:=t
       obtain ⟨r2,t2⟩:=u
       simp only at p0 p1 q0 q1
       by_cases hr:r1=r2
       · by_cases ht:t1=t2
         · subst hr ht
           have HST:=Lib.hid (eq_step HTK.out HTT.out HUU.out rfl)
           go_wp2
           go_quiet (fail)
           go_wp2
           go_roundw
           case rel=>exact ⟨k + 1,_,by omega,by go_num,HST.out,rfl⟩
           case measure=>simp [intOf];omega
         · subst hr
           have HE:Hid (decide (l=m)=false):=Lib.hid (show decide (l=m)=false by
             rw [decide_eq_false_iff_not];rintro rfl
             have:=HTT.out.symm.trans HUU.out
             simp at this;exact ht this)
           have x1:(t1 == t2)=false:=by simpa using ht
           have x2:(t1 != t2)=true:=by simpa using ht
           go_wp2
           go_quiet (fail)
           go_wp2
           go_ret
           exact ⟨by rw [HE.out];rfl,by first | exact ⟨_,rfl⟩ | exact ⟨_,by rw [World.drewN_drewN]⟩⟩
       · have HE : Hid (decide (l = m) = false) := Lib.hid (show decide (l = m) = false by
           rw [decide_eq_false_iff_not];rintro rfl
           have:=HTT.out.symm.trans HUU.out
           simp at this;exact hr this.1)
         have x1:(r1 == r2)=false:=by simpa using hr
         have x2:(r1 != r2)=true:=by simpa using hr
         go_wp2
         go_quiet (fail)
         go_wp2
         go_ret
         exact ⟨by rw [HE.out];rfl,by first | exact ⟨_,rfl⟩ | exact ⟨_,by rw [World.drewN_drewN]⟩⟩
     · have HE : Hid (decide (l = m) = true) := Lib.hid (show decide (l = m) = true by
         rw [decide_eq_true_eq]
         have h:=HTK.out
         rw [List.take_of_length_le (by have:=HN.out;omega),List.take_of_length_le (by have:=HN2.out;omega)] at h
         exact h)
       go_wp2
       go_ret
       exact ⟨by rw [HE.out];rfl,by first | exact ⟨_,rfl⟩ | exact ⟨_,by rw [World.drewN_drewN]⟩⟩
 · have HE : Hid (decide (l = m) = false) := Lib.hid (show decide (l = m) = false by
     rw [decide_eq_false_iff_not];rintro rfl;exact hne (HN.out.trans HN2.out.symm))
   have x1:((n:Int) == (n2:Int))=false:=by simp;omega
   have x2:((n:Int) != (n2:Int))=true:=by simp;omega
   rw [HE.out]
   go_enter Tryz.func28,Tryz.ntmps28
   go_wp2
   go_ret
   exact ⟨rfl,0,rfl⟩
theorem equal_ents (v1 v2:Value) (l m:List Ent) (w:World) (h1:IsEnts w v1 l) (h2:IsEnts w v2 m) (hl:l.length≤1000000) (hm:m.length≤9223372036854775807) :
   Calls Tryz.prog 28 #[v1,v2] w fun e w'=>e=.returned (.bool (decide (l=m)))∧∃ q,w'=w.drewN q:=equal_entsL v1 v2 l m w h1 h2 (Nat.le_trans hl (by decide)) hm
theorem equal_same (v1 v2:Value) (l:List Ent) (w:World) (h1:IsEnts w v1 l) (h2:IsEnts w v2 l) (hl:l.length≤1000000) :
   Calls Tryz.prog 28 #[v1,v2] w fun e w'=>e=.returned (.bool true)∧∃ q,w'=w.drewN q :=
 (equal_ents v1 v2 l l w h1 h2 hl (by omega)).mono fun _ _ ⟨h1,h2⟩=>⟨by rw [h1];simp,h2⟩
theorem equal_asL (v1 v2:Value) (l m:List Ent) (c:Bool) (w:World) (h1:IsEnts w v1 l) (h2:IsEnts w v2 m) (hl:l.length≤9223372036854775807) (hm:m.length≤9223372036854775807) (hc:decide (l=m)=c) :
   Calls Tryz.prog 28 #[v1,v2] w fun e w'=>e=.returned (.bool c)∧∃ q,w'=w.drewN q :=
 (equal_entsL v1 v2 l m w h1 h2 hl hm).mono fun _ _ ⟨h1,h2⟩=>⟨by rw [h1,hc],h2⟩
end Go.Proofs.YtifbebhgeheooaaGreatDoor
namespace Go.Proofs.YtifbebhgeheooaaGreatDoor
open Go.RowKit
theorem info_run:(Tryz.prog.info? 35).map (fun i=>(i.zero,i.size,i.bytes))=some (some (.slice none 0 0),1,24):=by kernel_rfl
def ownsR (w:World) (base:Nat) (v:Value) (l:List Value):Prop:=w.ownsRow base 35 1 v l.length l
theorem ownsR_nil (w:World) (base:Nat):ownsR w base (.slice none 0 0) []:=World.ownsRow_nil _ _ _ _
theorem ownsR.alloc {w:World} {base:Nat} {v:Value} {l:List Value} (h:ownsR w base v l) (o:Obj):ownsR (w.alloc o) base v l:=World.ownsRow.alloc h o
theorem ownsR.drewN {w:World} {base:Nat} {v:Value} {l:List Value} (h:ownsR w base v l) (n:Nat):ownsR (w.drewN n) base v l:=h
theorem ownsR.lt {w:World} {base:Nat} {v:Value} {l:List Value} (h:ownsR w base v l):∀ k,v.ownBlock=some k→base≤k∧k < w.heap.size:=World.ownsRow.lt h
theorem ownsR.below {w w':World} {base:Nat} {v:Value} {l:List Value} (h:ownsR w base v l) (hb:Below w.heap.size w w'):ownsR w' base v l:=by
 refine World.ownsRow.kept h (row:=none) ⟨hb.os,hb.tape,hb.output,hb.size,fun k hk _=>hb.block k hk⟩ ?_
 cases hv:v.ownBlock with
 | none=>exact .inl rfl
 | some g=>exact .inr (by simp)
theorem ownsR.forms {w:World} {base:Nat} {v:Value} {l:List Value} (h:ownsR w base v l) :
   (v=.slice none 0 0∧l=[])∨∃ g cap,v=.slice (some ⟨g,0,none⟩) l.length cap∧base≤g∧g < w.heap.size∧(∃ cur,w.heap[g]? = some (.cells cur 35 (0,0)))∧∀ j u,l[j]? = some u→w.cell? ⟨g,j,none⟩=some u:=by
 have hall:=h
 obtain ⟨h0,h1⟩:=h
 rcases h1 with ⟨rfl,hn⟩ | ⟨g,cap,cur,rfl,hb,hh,hc,hm,hs,ht⟩
 · exact .inl ⟨rfl,List.length_eq_zero_iff.1 hn⟩
 · refine .inr ⟨g,cap,rfl,hb,(World.ownsRow.lt hall g rfl).2,⟨cur,hh⟩,fun j u hj=>?_⟩
   have hjl:j < l.length:=(List.getElem?_eq_some_iff.1 hj).1
   rw [World.ownsRow.cellAt hall j (by omega)]
   exact hj
theorem wpList_append_run {w:World} {ops:Array Oper} {rest:List Oper} {o:Oper} {a:Act} {Q:Exit→Act→World→Prop} (hgd:o.guard=none) (s x:Operand)
   (ho:o.op=.call { callee:=.builtin .append,args:=#[s,x],argTypes:=#[111,111] })
   (base:Nat) (v:Value) (l:List Value) (hs:a.eval s=v) (hown:ownsR w base v l)
   (ad:Addr) (c:Nat) (hx:a.eval x=.slice (some ad) 1 c) (d:Value) (hd:∃ a n m,d=.slice a n m) (hcell:w.cell? (ad.add 0)=some d)
   (hlen:l.length + 1≤1000000) (hbase:base≤w.heap.size)
   (h:∀ g cap w',ownsR w' base (.slice (some ⟨g,0,none⟩) (l.length + 1) cap) (l ++ [d])→w.grownBy w' v.ownBlock→wpList Tryz.prog ops Q rest (a.put o.dst (.slice (some ⟨g,0,none⟩) (l.length + 1) cap)) w'):wpList Tryz.prog ops Q (o :: rest) a w:=by
 obtain ⟨i0,hi,hz0,hz1,hz2⟩:=info_parts info_run
 refine wpList_append_lies w hgd s x 111 ho base 35 i0 (.slice none 0 0) 1 24 Tryz.underlying111 hi hz0 hz1 hz2 rfl (by decide) v l.length l hs hown ad 1 c [d] hx rfl ?_ ?_ (by decide) (by unfold maxLen;omega) (by omega) hbase _ rfl ?_
 · intro j u hj
   match j,hj with
   | 0,hj=>simp at hj;subst hj;exact hcell
 · intro u hu;simp at hu;subst hu;obtain ⟨a,n,m,rfl⟩:=hd;rfl
 · intro g cap w' h1 h2 _ _
   refine h g cap w' ?_ h2
   unfold ownsR
   rw [List.length_append]
   exact h1
def areE (w:World):List Value→List (List Ent)→Prop
 | [],[]=>True
 | v :: vs,r :: rs=>IsEnts w v r∧areE w vs rs
 | _,_=>False
theorem areE_len {w:World} {vs:List Value}:∀ {rs:List (List Ent)},areE w vs rs→vs.length=rs.length:=by
 induction vs with
 | nil=>intro rs h;cases rs with
   | nil=>rfl
   | cons r rs=>exact h.elim
 | cons v vs ih=>intro rs h;cases rs with
   | nil=>exact h.elim
   | cons r rs=>simp [ih h.2]
theorem areE_snoc {w:World} {vs:List Value} {v:Value} {r:List Ent} (hv:IsEnts w v r):∀ {rs:List (List Ent)},areE w vs rs→areE w (vs ++ [v]) (rs ++ [r]):=by
 induction vs with
 | nil=>intro rs h;cases rs with
   | nil=>exact ⟨hv,trivial⟩
   | cons r rs=>exact h.elim
 | cons v vs ih=>intro rs h;cases rs with
   | nil=>exact h.elim
   | cons r rs=>exact ⟨h.1,ih h.2⟩
theorem areE_at {w:World} {vs:List Value}:∀ {rs:List (List Ent)} {i:Nat} {r:List Ent},areE w vs rs→rs[i]? = some r→∃ v,vs[i]? = some v∧IsEnts w v r:=by
 induction vs with
 | nil=>intro rs i r h hi;cases rs with
   | nil=>simp at hi
   | cons r rs=>exact h.elim
 | cons v vs ih=>intro rs i r h hi;cases rs with
   | nil=>exact h.elim
   | cons r rs=>cases i with
     | zero=>simp at hi;subst hi;exact ⟨v,by simp,h.1⟩
     | succ i=>simp at hi;obtain ⟨u,h1,h2⟩:=ih h.2 hi;exact ⟨u,by simpa using h1,h2⟩
end Go.Proofs.YtifbebhgeheooaaGreatDoor
namespace Go.Proofs.YtifbebhgeheooaaGreatDoor
open Go.RowKit
set_option maxRecDepth 100000 in
theorem clone_s (s:ByteArray) (w:World) (hs:s.size≤140737488351232) :
   Calls Tryz.prog 91 #[.string s] w fun e w'=>e=.returned (.string s)∧Below w.heap.size w w':=by
 go_enter Tryz.func91,Tryz.ntmps91
 go_wp2_with fail
 refine (Tryz.stringslite_Clone s _ (by omega)).mono ?_
 rintro r w1 ⟨rfl,hb1⟩
 have HB:=Lib.hid hb1
 clear hb1
 go_wp2
 go_ret
 exact ⟨rfl,HB.out⟩
end Go.Proofs.YtifbebhgeheooaaGreatDoor
namespace Go.Proofs.YtifbebhgeheooaaGreatDoor
open Go.RowKit
theorem IsTexts.row {w:World} {a:Option Addr} {n cap:Nat} {l:List ByteArray} (h:IsTexts w (.slice a n cap) l):n=l.length∧(l=[]∨∃ b off,a=some ⟨b,off,none⟩∧b < w.heap.size∧∀ j,j < l.length→w.cell? ⟨b,off + j,none⟩=some (.string (l.getD j ByteArray.empty))):=by
 obtain ⟨a',cap',h1,_,h3⟩:=h
 obtain ⟨rfl,rfl,rfl⟩:=Value.slice.inj h1
 refine ⟨rfl,?_⟩
 cases l with
 | nil=>exact .inl rfl
 | cons s r =>
   right
   obtain ⟨b,off,rfl,hb,_⟩:=h3 0 s rfl
   refine ⟨b,off,rfl,hb,fun j hj=>?_⟩
   obtain ⟨b2,off2,e,_,hc⟩:=h3 j _ (List.getElem?_eq_getElem hj)
   simp only [Option.some.injEq,Addr.mk.injEq,and_true] at e
   obtain ⟨rfl,rfl⟩:=e
   rw [hc]
   simp [List.getElem?_eq_getElem hj]
theorem IsNums.row {w:World} {a:Option Addr} {n cap:Nat} {l:List Int} (h:IsNums w (.slice a n cap) l):n=l.length∧(l=[]∨∃ b off,a=some ⟨b,off,none⟩∧b < w.heap.size∧∀ j,j < l.length→w.cell? ⟨b,off + j,none⟩=some (.int .i64 (l.getD j 0))):=by
 obtain ⟨a',cap',h1,_,h3⟩:=h
 obtain ⟨rfl,rfl,rfl⟩:=Value.slice.inj h1
 refine ⟨rfl,?_⟩
 cases l with
 | nil=>exact .inl rfl
 | cons s r =>
   right
   obtain ⟨b,off,rfl,hb,_⟩:=h3 0 s rfl
   refine ⟨b,off,rfl,hb,fun j hj=>?_⟩
   obtain ⟨b2,off2,e,_,hc⟩:=h3 j _ (List.getElem?_eq_getElem hj)
   simp only [Option.some.injEq,Addr.mk.injEq,and_true] at e
   obtain ⟨rfl,rfl⟩:=e
   rw [hc]
   simp [List.getElem?_eq_getElem hj]
theorem IsTexts.form {w:World} {v:Value} {l:List ByteArray} (h:IsTexts w v l):∃ a cap,v=.slice a l.length cap:=by
 obtain ⟨a,cap,h1,_⟩:=h;exact ⟨a,cap,h1⟩
theorem IsNums.form {w:World} {v:Value} {l:List Int} (h:IsNums w v l):∃ a cap,v=.slice a l.length cap:=by
 obtain ⟨a,cap,h1,_⟩:=h;exact ⟨a,cap,h1⟩
end Go.Proofs.YtifbebhgeheooaaGreatDoor
namespace Go.Proofs.YtifbebhgeheooaaGreatDoor
open Go.RowKit
theorem bldSize:(Tryz.prog.info? 157).map (·.size)=some 2:=by kernel_rfl
theorem bldLies:liesAt Tryz.prog Tryz.prog.depth 157 (2 / Tryz.prog.cellsOf 157) 0 157 1=true:=by kernel_rfl
def isBld (w:World) (B b:Nat) (l:List UInt8):Prop:=Lib.IsBuilder 157 5 B b (Lib.byteCells l) w
theorem bld_new (w:World) (B:Nat) (h:B≤w.heap.size):isBld (w.alloc (.cells #[.pointer none,.slice none 0 0] 157)) B w.heap.size [] :=
 .inl ⟨h,.slice none 0 0,heap_alloc_new w _,World.ownsRow_nil _ _ _ _,by simp [Value.ownBlock]⟩
theorem isBld.below {w w':World} {B b:Nat} {l:List UInt8} (h:isBld w B b l) (hb:Below w.heap.size w w'):isBld w' B b l:=by
 have hone:∀ {p:Value},Lib.BuilderAt 157 5 B b p (Lib.byteCells l) w→Lib.BuilderAt 157 5 B b p (Lib.byteCells l) w':=by
   intro p h
   have hlt:=h.lt
   obtain ⟨hB,v,hbk,hown,hne⟩:=h
   refine ⟨hB,v,(hb.block b hlt).trans hbk,?_,hne⟩
   refine World.ownsRow.kept hown (row:=none) ⟨hb.os,hb.tape,hb.output,hb.size,fun k hk _=>hb.block k hk⟩ ?_
   cases hv:v.ownBlock with
   | none=>exact .inl rfl
   | some g=>exact .inr (by simp)
 rcases h with h | h
 · exact .inl (hone h)
 · exact .inr (hone h)
theorem isBld.lt {w:World} {B b:Nat} {l:List UInt8} (h:isBld w B b l):B≤b∧b < w.heap.size:=by
 rcases h with h | h
 · exact ⟨h.1,h.lt⟩
 · exact ⟨h.1,h.lt⟩
theorem isBld.alloc {w:World} {B b:Nat} {l:List UInt8} (h:isBld w B b l) (o:Obj):isBld (w.alloc o) B b l:=h.below ((Below.refl _ _).alloc (Nat.le_refl _) _)
set_option maxRecDepth 100000 in
set_option maxHeartbeats 1000000 in
theorem copy_used (b:Nat) (w:World) (h0:w.cell? ⟨b,0,none⟩=some (.pointer (some ⟨b,0,none⟩))) :
   Calls Tryz.prog 127 #[.pointer (some ⟨b,0,none⟩)] w fun e w'=>e=.returned (.tuple #[])∧w'=w:=by
 obtain ⟨j,hj,_⟩:=Option.map_eq_some_iff.1 bldSize
 go_enter Tryz.func127,Tryz.ntmps127
 go_wp2
 rw [Lib.run_neq_ptr_same w _ Tryz.underlying154 hj]
 go_wp2
 go_end0
 exact ⟨rfl,rfl⟩
set_option maxRecDepth 100000 in
set_option maxHeartbeats 1000000 in
theorem copy_fresh (b:Nat) (w:World) (h0:w.cell? ⟨b,0,none⟩=some (.pointer none)) (hsh:w.shape? b=some (157,2)) (hfz:w.frozen? ⟨b,0,none⟩=false) :
   Calls Tryz.prog 127 #[.pointer (some ⟨b,0,none⟩)] w fun e w'=>e=.returned (.tuple #[])∧w'=w.setCell ⟨b,0,none⟩ (.pointer (some ⟨b,0,none⟩)):=by
 obtain ⟨j,hj,hjs⟩:=Option.map_eq_some_iff.1 bldSize
 go_enter Tryz.func127,Tryz.ntmps127
 go_wp2
 rw [Lib.run_to_unsafe w ⟨b,0,none⟩ Tryz.underlying154 Tryz.underlying138 hj (by rw [hjs];decide) hsh (Nat.zero_lt_succ 1)]
 simp only [Result.andThen]
 rw [Oper.upon_value]
 go_wp2
 rw [run_callFunc_extern Tryz.func149 (by kernel_rfl) (by kernel_rfl) (by kernel_rfl) (e:=Extern.AbiNoEscape.same) (by kernel_rfl)]
 rw [Lib.run_noEscape]
 simp only [Result.andThen]
 rw [Oper.upon_value]
 go_wp2
 rw [Lib.run_from_unsafe w ⟨b,0,none⟩ Tryz.underlying138 Tryz.underlying154 hj hsh bldLies]
 simp only [Result.andThen]
 rw [Oper.upon_value]
 go_wp2
 go_end0
 exact ⟨rfl,rfl⟩
theorem bld_string (B b:Nat) (l:List UInt8) (w:World) (h:isBld w B b l) (hBw:B≤w.heap.size) :
   Calls Tryz.prog 101 #[.pointer (some ⟨b,0,none⟩)] w fun e w'=>e=.returned (.string ⟨l.toArray⟩)∧Below B w w' :=
 Tryz.Builder_String_any B b l w h hBw
end Go.Proofs.YtifbebhgeheooaaGreatDoor
namespace Go.Proofs.YtifbebhgeheooaaGreatDoor
open Go.RowKit
def cmpF (x y:Int):Int:=if x < y then -1 else if y < x then 1 else 0
def orF (p q:Int):Int:=if p=0 then q else p
def cI (a b:Int×Int):Int:=orF (cmpF a.1 b.1) (cmpF a.2 b.2)
def wiF (x:Int×Int) (from_ have_:List Ent):Bool:=decide (ofF from_ x.2 < x.1) && decide (x.1≤ofF have_ x.2)
set_option maxRecDepth 100000 in
theorem cmp_any (x y:Int) (w:World):Calls Tryz.prog 103 #[.int .i64 x,.int .i64 y] w fun e w'=>e=.returned (.int .i64 (cmpF x y))∧w=w':=by
 have hn:∀ (z:Int) (w:World),Calls Tryz.prog 128 #[.int .i64 z] w fun e w'=>e=.returned (.bool false)∧w=w':=fun z w=>by
   go_enter Tryz.func128,Tryz.ntmps128
   go_wp2
   go_ret
   exact ⟨by first | rfl | simp,rfl⟩
 by_cases h1:x < y
 · have HW:Hid (cmpF x y=-1):=Lib.hid (by unfold cmpF;rw [if_pos h1])
   rw [HW.out]
   go_enter Tryz.func103,Tryz.ntmps103
   go_wp2_with (first | (go_at_call 128;refine (hn _ _).mono ?_;rintro e w' ⟨rfl,rfl⟩))
   go_ret
   exact ⟨rfl,rfl⟩
 · by_cases h2:y < x
   · have HW:Hid (cmpF x y=1):=Lib.hid (by unfold cmpF;rw [if_neg h1,if_pos h2])
     rw [HW.out]
     go_enter Tryz.func103,Tryz.ntmps103
     go_wp2_with (first | (go_at_call 128;refine (hn _ _).mono ?_;rintro e w' ⟨rfl,rfl⟩))
     go_ret
     exact ⟨rfl,rfl⟩
   · obtain rfl:x=y:=by omega
     have HW:Hid (cmpF x x=0):=Lib.hid (by unfold cmpF;rw [if_neg h1,if_neg h1])
     rw [HW.out]
     clear h1 h2
     go_enter Tryz.func103,Tryz.ntmps103
     go_wp2_with (first | (go_at_call 128;refine (hn _ _).mono ?_;rintro e w' ⟨rfl,rfl⟩))
     go_ret
     exact ⟨rfl,rfl⟩
theorem cmp_as (x y c:Int) (w:World) (h:cmpF x y=c):Calls Tryz.prog 103 #[.int .i64 x,.int .i64 y] w fun e w'=>e=.returned (.int .i64 c)∧w=w':=by
 subst h;exact cmp_any x y w
set_option maxRecDepth 100000 in
theorem or_any (p q c:Int) (B:Nat) (w:World) (h0:w.cell? ⟨B,0,none⟩=some (.int .i64 p)) (h1:w.cell? ⟨B,1,none⟩=some (.int .i64 q)) (h:orF p q=c) :
   Calls Tryz.prog 102 #[.slice (some ⟨B,0,none⟩) 2 2] w fun e w'=>e=.returned (.int .i64 c)∧w=w':=by
 subst h
 by_cases hp:p=0
 · have HW:Hid (orF p q=q):=Lib.hid (by unfold orF;rw [if_pos hp])
   rw [HW.out]
   subst hp
   by_cases hq:q=0
   · subst hq
     go_enter Tryz.func102,Tryz.ntmps102
     go_wp2
     refine wp_loop_rounds 3 ?_
     rw [rounds_succ]
     go_wp2
     rw [rounds_succ]
     go_wp2
     rw [rounds_succ]
     go_wp2
     go_ret
     exact ⟨rfl,rfl⟩
   · have bq:(q == 0)=false:=by simpa using hq
     have bq2:(q != 0)=true:=by simpa using hq
     go_enter Tryz.func102,Tryz.ntmps102
     go_wp2
     refine wp_loop_rounds 2 ?_
     rw [rounds_succ]
     go_wp2
     rw [rounds_succ]
     go_wp2
     go_ret
     exact ⟨rfl,rfl⟩
 · have HW:Hid (orF p q=p):=Lib.hid (by unfold orF;rw [if_neg hp])
   rw [HW.out]
   have bq:(p == 0)=false:=by simpa using hp
   have bq2:(p != 0)=true:=by simpa using hp
   go_enter Tryz.func102,Tryz.ntmps102
   go_wp2
   refine wp_loop_rounds 1 ?_
   rw [rounds_succ]
   go_wp2
   go_ret
   exact ⟨rfl,rfl⟩
theorem three_new (w:World) (o1 o2:Obj) (a b:Value) (t:TypeId):(((w.alloc o1).alloc o2).alloc (.cells #[a,b] t)).cell? ⟨w.heap.size + 1 + 1,0,none⟩=some a∧(((w.alloc o1).alloc o2).alloc (.cells #[a,b] t)).cell? ⟨w.heap.size + 1 + 1,1,none⟩=some b:=by
 have h:=heap_alloc_new ((w.alloc o1).alloc o2) (.cells #[a,b] t)
 rw [World.size_alloc,World.size_alloc] at h
 exact ⟨cell_of_row _ _ 0 _ _ (0,0) h,cell_of_row _ _ 1 _ _ (0,0) h⟩
set_option maxRecDepth 100000 in
set_option maxHeartbeats 2000000 in
theorem idcmp_any (a b:Int×Int) (w:World):Calls Tryz.prog 60 #[.agg #[.int .i64 a.1,.int .i64 a.2],.agg #[.int .i64 b.1,.int .i64 b.2]] w fun e w'=>e=.returned (.int .i64 (cI a b))∧Below w.heap.size w w':=by
 obtain ⟨x1,x2⟩:=a
 obtain ⟨y1,y2⟩:=b
 simp only
 obtain ⟨c1,hc1⟩:∃ c,cmpF x1 y1=c:=⟨_,rfl⟩
 obtain ⟨c2,hc2⟩:∃ c,cmpF x2 y2=c:=⟨_,rfl⟩
 obtain ⟨c,hc⟩:∃ c,orF c1 c2=c:=⟨_,rfl⟩
 have HW:Hid (cI (x1,x2) (y1,y2)=c):=Lib.hid (show cI (x1,x2) (y1,y2)=c by unfold cI;simp only;rw [hc1,hc2,hc])
 have H1:=Lib.hid hc1
 have H2:=Lib.hid hc2
 have H3:=Lib.hid hc
 clear hc1 hc2 hc
 rw [HW.out]
 go_enter Tryz.func60,Tryz.ntmps60
 go_wp2
 have k0:((w.alloc (.cells #[.int .i64 x1,.int .i64 x2] 23)).alloc (.cells #[.int .i64 y1,.int .i64 y2] 23)).cell? ⟨w.heap.size,0,none⟩=some (.int .i64 x1)∧((w.alloc (.cells #[.int .i64 x1,.int .i64 x2] 23)).alloc (.cells #[.int .i64 y1,.int .i64 y2] 23)).cell? ⟨w.heap.size,1,none⟩=some (.int .i64 x2)∧((w.alloc (.cells #[.int .i64 x1,.int .i64 x2] 23)).alloc (.cells #[.int .i64 y1,.int .i64 y2] 23)).cell? ⟨w.heap.size + 1,0,none⟩=some (.int .i64 y1)∧((w.alloc (.cells #[.int .i64 x1,.int .i64 x2] 23)).alloc (.cells #[.int .i64 y1,.int .i64 y2] 23)).cell? ⟨w.heap.size + 1,1,none⟩=some (.int .i64 y2):=by simp
 go_region_held3 (fun w'=>w'.cell? ⟨w.heap.size,0,none⟩=some (.int .i64 x1)∧w'.cell? ⟨w.heap.size,1,none⟩=some (.int .i64 x2)∧w'.cell? ⟨w.heap.size + 1,0,none⟩=some (.int .i64 y1)∧w'.cell? ⟨w.heap.size + 1,1,none⟩=some (.int .i64 y2)) (first | exact k0 | go_keep) (first | (go_at_call 103;((with_reducible refine (cmp_as x1 y1 c1 _ H1.out).mono ?_);rintro r w' ⟨rfl,rfl⟩)) | (go_at_call 103;((with_reducible refine (cmp_as x2 y2 c2 _ H2.out).mono ?_);rintro r w' ⟨rfl,rfl⟩)) | (go_at_call 102;((refine (or_any c1 c2 c _ _ (by simp;exact (three_new _ _ _ _ _ _).1) (by simp;exact (three_new _ _ _ _ _ _).2) H3.out).mono ?_);rintro r w' ⟨rfl,rfl⟩)))
 go_wp2
 go_ret
 refine ⟨rfl,?_⟩
 first
   | exact (((Below.refl _ _).alloc (Nat.le_refl _) _).alloc (by simp) _).drew.alloc (by simp;omega) _
   | exact ((((Below.refl _ _).alloc (Nat.le_refl _) _).alloc (by simp) _).alloc (by simp;omega) _).drew
theorem idcmp_as (x1 x2 y1 y2 c:Int) (w:World) (h:cI (x1,x2) (y1,y2)=c):Calls Tryz.prog 60 #[.agg #[.int .i64 x1,.int .i64 x2],.agg #[.int .i64 y1,.int .i64 y2]] w fun e w'=>e=.returned (.int .i64 c)∧Below w.heap.size w w':=by
 subst h;exact idcmp_any (x1,x2) (y1,y2) w
end Go.Proofs.YtifbebhgeheooaaGreatDoor
