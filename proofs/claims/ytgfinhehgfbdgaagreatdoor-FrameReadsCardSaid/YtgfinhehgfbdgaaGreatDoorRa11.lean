import Derived.Test.YtgfinhehgfbdgaaGreatDoorRa10
namespace Go.Proofs.YtgfinhehgfbdgaaGreatDoor
open Go.RowKit Go.Extern.Stop Go.Stop Go.Extern
def errT (w:World):Prop:=w.cell? ⟨0,0,none⟩=some (.iface 226 (.agg #[.pointer (some ⟨5,33,none⟩)]))
def asWorld (w:World) (t:Addr):World :=
 ((w.alloc (.cells #[.pointer (some t)] 96)).alloc (.cells #[.pointer (some ⟨5,96,none⟩),.pointer (some ⟨w.heap.size,0,none⟩),.int .u64 150] 172)).alloc (.cells #[.pointer (some ⟨5,96,none⟩),.pointer (some ⟨w.heap.size,0,none⟩),.int .u64 150] 172)
theorem lt_of_cell {w:World} {a:Addr} {v:Value} (h:w.cell? a=some v):a.block<w.heap.size:=by
 rcases Nat.lt_or_ge a.block w.heap.size with h' | h'
 · exact h'
 · simp [World.cell?,Array.getElem?_eq_none h'] at h
set_option maxRecDepth 100000 in
set_option maxHeartbeats 4000000 in
theorem as_errno (e:Int) (t:Addr) (old:Value) (w:World) (hg:errT w) (ht0:w.cell? t=some old) (hf0:w.frozen? t=false) :
   Calls Tryz.prog 69 #[.iface 27 (.int .i64 e),.iface 96 (.pointer (some t))] w fun ev w'=>ev=.returned (.bool true)∧((asWorld w t).alloc (.cells #[.int .i64 e] 27)).setCell t (.int .i64 e)=w':=by
 unfold asWorld;unfold errT at hg;have h6:=@run_callFunc_extern Tryz.prog 127 _ (fun args=>ReflectliteValue.unpack (args.getD 0 (.tuple #[]))) Tryz.func127 (by kernel_rfl) (by kernel_rfl) (by kernel_rfl) (by kernel_rfl)
 have h7 := @run_callFunc_extern Tryz.prog 128 _ (ReflectliteValue.methodAny (ReflectliteValue.valueError "reflectlite.Value.Type" 0) (fun t _ _ _ => ReflectliteType.toType t)) Tryz.func128 (by kernel_rfl) (by kernel_rfl) (by kernel_rfl) (by kernel_rfl)
 have h8 := @run_callFunc_extern Tryz.prog 129 _ (ReflectliteValue.method (ReflectliteValue.valueError "reflectlite.Value.IsNil" 0) ReflectliteValue.isNil) Tryz.func129 (by kernel_rfl) (by kernel_rfl) (by kernel_rfl) (by kernel_rfl)
 have h27:=@run_callFunc_extern Tryz.prog 240 _ (ReflectliteType.abiMethod fun t=>do pure (.int .u8 (←Rtype.kind t))) Tryz.func240 (by kernel_rfl) (by kernel_rfl) (by kernel_rfl) (by kernel_rfl);have h37:=@run_callFunc_extern Tryz.prog 253 _ (ReflectliteType.method ReflectliteType.elem) Tryz.func253 (by kernel_rfl) (by kernel_rfl) (by kernel_rfl) (by kernel_rfl)
 have h38 := @run_callFunc_extern Tryz.prog 254 _ (ReflectliteType.relation "Implements" ReflectliteType.implements_) Tryz.func254 (by kernel_rfl) (by kernel_rfl) (by kernel_rfl) (by kernel_rfl)
 have h10:=@run_callFunc_extern Tryz.prog 175 _ ReflectliteType.typeOf Tryz.func175 (by kernel_rfl) (by kernel_rfl) (by kernel_rfl) (by kernel_rfl)
 have h35 := @run_callFunc_extern Tryz.prog 251 _ (ReflectliteType.relation "AssignableTo" ReflectliteType.assignableTo) Tryz.func251 (by kernel_rfl) (by kernel_rfl) (by kernel_rfl) (by kernel_rfl)
 have h11 := @run_callFunc_extern Tryz.prog 176 _ (ReflectliteValue.method (ReflectliteValue.valueError "reflectlite.Value.Elem" 0) ReflectliteValue.elem) Tryz.func176 (by kernel_rfl) (by kernel_rfl) (by kernel_rfl) (by kernel_rfl)
 have h12:=@run_callFunc_extern Tryz.prog 177 _ ReflectliteValue.set Tryz.func177 (by kernel_rfl) (by kernel_rfl) (by kernel_rfl) (by kernel_rfl);have tO:=As.typeOfE;have mA:=As.methodAssignableTo;have aE:=As.assignableE;have vE:=As.valueOfE;have f6:=As.valueOfP;have f7:=As.typeP;have mK:=As.methodKind;have mE:=As.methodElem;have mI:=As.methodImplements;have kP:=As.kindP;have kE:=As.kindE;have eP:=As.elemP;have iE:=As.implementsE;have htl:=lt_of_cell ht0;have hlt:0<w.heap.size:=lt_of_cell hg;have n8:=As.isNilP ⟨w.heap.size,0,none⟩ t ((w.alloc (.cells #[.pointer (some t)] 96)).alloc (.cells #[.pointer (some ⟨5,96,none⟩),.pointer (some ⟨w.heap.size,0,none⟩),.int .u64 150] 172)) (by simp);have hg2:((w.alloc (.cells #[.pointer (some t)] 96)).alloc (.cells #[.pointer (some ⟨5,96,none⟩),.pointer (some ⟨w.heap.size,0,none⟩),.int .u64 150] 172)).cell? ⟨0,0,none⟩=some (.iface 226 (.agg #[.pointer (some ⟨5,33,none⟩)])):=by
   rw [World.cell?_alloc_lt _ _ ⟨0,0,none⟩ (by simp only [World.size_alloc];omega),World.cell?_alloc_lt _ _ ⟨0,0,none⟩ hlt];exact hg
 have el:=As.elemVP ⟨w.heap.size,0,none⟩ t (((w.alloc (.cells #[.pointer (some t)] 96)).alloc (.cells #[.pointer (some ⟨5,96,none⟩),.pointer (some ⟨w.heap.size,0,none⟩),.int .u64 150] 172)).alloc (.cells #[.pointer (some ⟨5,96,none⟩),.pointer (some ⟨w.heap.size,0,none⟩),.int .u64 150] 172)) (by rw [World.cell?_alloc_lt _ _ ⟨w.heap.size,0,none⟩ (by simp;omega)];simp)
 have st:=As.setE t ⟨w.heap.size+1+1+1,0,none⟩ e old ((((w.alloc (.cells #[.pointer (some t)] 96)).alloc (.cells #[.pointer (some ⟨5,96,none⟩),.pointer (some ⟨w.heap.size,0,none⟩),.int .u64 150] 172)).alloc (.cells #[.pointer (some ⟨5,96,none⟩),.pointer (some ⟨w.heap.size,0,none⟩),.int .u64 150] 172)).alloc (.cells #[.int .i64 e] 27))
   (by rw [World.cell?_alloc_at _ _ _ _ (by simp)];rfl)
   (by rw [World.cell?_alloc_lt _ _ t (by simp;omega),World.cell?_alloc_lt _ _ t (by simp;omega),World.cell?_alloc_lt _ _ t (by simp;omega),World.cell?_alloc_lt _ _ t htl];exact ht0)
   (by rw [World.frozen?_alloc_old _ _ t (by simp;omega),World.frozen?_alloc_old _ _ t (by simp;omega),World.frozen?_alloc_old _ _ t (by simp;omega),World.frozen?_alloc_old _ _ t (Nat.ne_of_lt htl)];exact hf0)
 go_enter Tryz.func69,Tryz.ntmps69
 go_wp2;refine wp_loop_rounds 1 ?_;rw [rounds_succ];go_wp2;go_ret;exact ⟨rfl,rfl⟩
end Go.Proofs.YtgfinhehgfbdgaaGreatDoor
namespace Go.Proofs.YtgfinhehgfbdgaaGreatDoor
open Go.RowKit
theorem within_as (x1 x2:Int) (vf vh:Value) (f h:List Ent) (b:Bool) (w:World) (hf:IsEnts w vf f) (hh:IsEnts w vh h) (hlf:f.length≤9223372036854775807) (hlh:h.length≤9223372036854775807) (hb:wiF (x1,x2) f h=b) :
  Calls Tryz.prog 105 #[.agg #[.int .i64 x1,.int .i64 x2],vf,vh] w fun e w'=>e=.returned (.bool b)∧Below w.heap.size w w':=within_any x1 x2 vf vh f h w hf hh hlf hlh b hb
end Go.Proofs.YtgfinhehgfbdgaaGreatDoor
namespace Go.Proofs.YtgfinhehgfbdgaaGreatDoor
open Go.RowKit
theorem cI_is (x1 x2 y1 y2:Int):cI (x1,x2) (y1,y2)=if x1<y1∨x1=y1∧x2<y2 then -1 else if x1=y1∧x2=y2 then 0 else 1:=by
 unfold cI orF cmpF;simp only
 repeat' split
 all_goals omega
set_option maxRecDepth 100000 in
theorem rcmp_as (x1 x2 y1 y2 c:Int) (w:World) (h:cI (x1,x2) (y1,y2)=c):Calls Tryz.prog 134 #[.agg #[.int .i64 x1,.int .i64 x2],.agg #[.int .i64 y1,.int .i64 y2]] w fun e w'=>e=.returned (.int .i64 c)∧Below w.heap.size w w':=by
 subst h;have hc:=cI_is x1 x2 y1 y2;by_cases h1:x1<y1
 · have HW:Hid (cI (x1,x2) (y1,y2)=-1):=Lib.hid (by rw [hc,if_pos (.inl h1)]);clear hc;go_enter Tryz.func134,Tryz.ntmps134
   go_wp2;go_ret;exact ⟨by rw [HW.out];rfl,((Below.refl _ _).alloc (Nat.le_refl _) _).alloc (by simp) _⟩
 · by_cases h2:x1=y1
   · subst h2;by_cases h3:x2<y2
     · have HW:Hid (cI (x1,x2) (x1,y2)=-1):=Lib.hid (by rw [hc,if_pos (.inr ⟨rfl,h3⟩)]);clear hc h1;go_enter Tryz.func134,Tryz.ntmps134
       go_wp2;go_ret;exact ⟨by rw [HW.out];rfl,((Below.refl _ _).alloc (Nat.le_refl _) _).alloc (by simp) _⟩
     · by_cases h4:x2=y2
       · subst h4;have HW:Hid (cI (x1,x2) (x1,x2)=0):=Lib.hid (by rw [hc,if_neg (by omega),if_pos ⟨rfl,rfl⟩]);clear hc h1 h3;go_enter Tryz.func134,Tryz.ntmps134
         go_wp2;go_ret;exact ⟨by rw [HW.out];rfl,((Below.refl _ _).alloc (Nat.le_refl _) _).alloc (by simp) _⟩
       · have HW:Hid (cI (x1,x2) (x1,y2)=1):=Lib.hid (by rw [hc,if_neg (by omega),if_neg (by omega)]);have b1:(x2 == y2)=false:=by simpa using h4
         have d3:y2<x2:=by omega
         have d4:decide (x2<y2)=false:=decide_eq_false h3;clear hc h1 h3;go_enter Tryz.func134,Tryz.ntmps134
         go_wp2;go_ret;exact ⟨by rw [HW.out];rfl,((Below.refl _ _).alloc (Nat.le_refl _) _).alloc (by simp) _⟩
   · have HW:Hid (cI (x1,x2) (y1,y2)=1):=Lib.hid (by rw [hc,if_neg (by omega),if_neg (by omega)]);have b1:(x1 == y1)=false:=by simpa using h2
     have d4:decide (x1<y1)=false:=decide_eq_false h1;clear hc;go_enter Tryz.func134,Tryz.ntmps134
     go_wp2;go_ret;exact ⟨by rw [HW.out];rfl,((Below.refl _ _).alloc (Nat.le_refl _) _).alloc (by simp) _⟩
set_option maxRecDepth 100000 in
set_option maxHeartbeats 2000000 in
theorem rwithin_as (x1 x2:Int) (vf vh:Value) (f h:List Ent) (w:World) (hf:IsEnts w vf f) (hh:IsEnts w vh h) (hlf:f.length≤9223372036854775807) (hlh:h.length≤9223372036854775807) (b:Bool) (hb:wiF (x1,x2) f h=b) :
   Calls Tryz.prog 135 #[.agg #[.int .i64 x1,.int .i64 x2],vf,vh] w fun e w'=>e=.returned (.bool b)∧Below w.heap.size w w':=by
 subst hb;obtain ⟨p,hp⟩:∃ p,ofF f x2=p:=⟨_,rfl⟩;obtain ⟨q,hq⟩:∃ q,ofF h x2=q:=⟨_,rfl⟩;have HP:=Lib.hid hp;have HQ:=Lib.hid hq;have HLF:=Lib.hid hlf;have HLH:=Lib.hid hlh;have HF:Hid (IsEnts (w.alloc (.cells #[.int .i64 x1,.int .i64 x2] 59)) vf f):=Lib.hid (hf.alloc _);have HH:Hid (IsEnts (w.alloc (.cells #[.int .i64 x1,.int .i64 x2] 59)) vh h):=Lib.hid (hh.alloc _);have hval:wiF (x1,x2) f h=(decide (p<x1) && decide (x1≤q)):=by unfold wiF;simp only;rw [hp,hq]
 by_cases h1:p<x1
 · by_cases h2:x1≤q
   · have HW:Hid (wiF (x1,x2) f h=true):=Lib.hid (by rw [hval,decide_eq_true h1,decide_eq_true h2];rfl);clear hf hh hp hq hlf hlh hval;rw [HW.out];go_enter Tryz.func135,Tryz.ntmps135
     go_wp2
     go_quiet ((first | (go_at_call 178;with_reducible exact rofI_q vf f x2 p _ _ HF.out HLF.out HP.out) | (go_at_call 178;with_reducible exact rofI_q vh h x2 q _ _ HH.out HLH.out HQ.out)))
     go_wp2;go_ret;exact ⟨rfl,below_drewN ((Below.refl _ _).alloc (Nat.le_refl _) _) _⟩
   · have HW:Hid (wiF (x1,x2) f h=false):=Lib.hid (by rw [hval,decide_eq_true h1,decide_eq_false h2];rfl);have d7:decide (x1≤q)=false:=decide_eq_false h2;clear hf hh hp hq hlf hlh hval h2;rw [HW.out];go_enter Tryz.func135,Tryz.ntmps135
     go_wp2
     go_quiet ((first | (go_at_call 178;with_reducible exact rofI_q vf f x2 p _ _ HF.out HLF.out HP.out) | (go_at_call 178;with_reducible exact rofI_q vh h x2 q _ _ HH.out HLH.out HQ.out)))
     go_wp2;go_ret;exact ⟨rfl,below_drewN ((Below.refl _ _).alloc (Nat.le_refl _) _) _⟩
 · have HW:Hid (wiF (x1,x2) f h=false):=Lib.hid (by rw [hval,decide_eq_false h1];rfl);have d6:decide (p<x1)=false:=decide_eq_false h1;clear hf hh hp hq hlf hlh hval h1;rw [HW.out];go_enter Tryz.func135,Tryz.ntmps135
   go_wp2
   go_quiet ((first | (go_at_call 178;with_reducible exact rofI_q vf f x2 p _ _ HF.out HLF.out HP.out)))
   go_wp2;go_ret;exact ⟨rfl,below_drewN ((Below.refl _ _).alloc (Nat.le_refl _) _) _⟩
end Go.Proofs.YtgfinhehgfbdgaaGreatDoor
namespace Go.Proofs.YtgfinhehgfbdgaaGreatDoor
open Go.RowKit
set_option maxRecDepth 100000 in
set_option maxHeartbeats 4000000 in
theorem rbsame_as (vf vh vw uf uh uw:Value) (f h:List Ent) (l:List Wr) (f2 h2:List Ent) (l2:List Wr) (c:Bool) (w:World) (hx:BatIs w vf vh vw f h l) (hy:BatIs w uf uh uw f2 h2 l2) (hc:sameV f h l f2 h2 l2=c) :
   Calls Tryz.prog 19 #[.agg #[vf,vh,vw],.agg #[uf,uh,uw]] w fun e w'=>e=.returned (.bool c)∧Below w.heap.size w w':=by
 subst hc;have HX:=Lib.hid hx;have HY:=Lib.hid hy;obtain ⟨hf,hh,hv,_⟩:=hx;obtain ⟨af,cf,rfl,_⟩:=hf.form;obtain ⟨ah,ch,rfl,_⟩:=hh.form;obtain ⟨aw,cw,rfl,_⟩:=hv.form;obtain ⟨hf2,hh2,hv2,_⟩:=hy;obtain ⟨bf,df,rfl,_⟩:=hf2.form;obtain ⟨bh,dh,rfl,_⟩:=hh2.form;obtain ⟨bw,dw,rfl,_⟩:=hv2.form;clear hf hh hv hf2 hh2 hv2;obtain ⟨nf,hn1⟩:∃ n,n=f.length:=⟨_,rfl⟩;obtain ⟨nh,hn2⟩:∃ n,n=h.length:=⟨_,rfl⟩;obtain ⟨n,hn3⟩:∃ n,n=l.length:=⟨_,rfl⟩;obtain ⟨mf,hn4⟩:∃ n,n=f2.length:=⟨_,rfl⟩;obtain ⟨mh,hn5⟩:∃ n,n=h2.length:=⟨_,rfl⟩;obtain ⟨m,hn6⟩:∃ n,n=l2.length:=⟨_,rfl⟩;rw [←hn1,←hn2,←hn3] at HX ⊢;rw [←hn4,←hn5,←hn6] at HY ⊢;obtain ⟨c1,e1⟩:∃ c,decide (f=f2)=c:=⟨_,rfl⟩;obtain ⟨c2,e2⟩:∃ c,decide (h=h2)=c:=⟨_,rfl⟩;obtain ⟨c3,e3⟩:∃ c,decide (l=l2)=c:=⟨_,rfl⟩;have HR:Hid (sameV f h l f2 h2 l2=(c1 && c2 && c3)):=Lib.hid (by unfold sameV;rw [e1,e2,e3]);have H1:=Lib.hid e1;have H2:=Lib.hid e2;have H3:=Lib.hid e3;have HW0:Hid (Below w.heap.size w ((w.alloc (.cells #[.slice af nf cf,.slice ah nh ch,.slice aw n cw] 25)).alloc (.cells #[.slice bf mf df,.slice bh mh dh,.slice bw m dw] 25))):=Lib.hid (((Below.refl _ _).alloc (Nat.le_refl _) _).alloc (by simp) _);have HA:Hid (bat2 ((w.alloc (.cells #[.slice af nf cf,.slice ah nh ch,.slice aw n cw] 25)).alloc (.cells #[.slice bf mf df,.slice bh mh dh,.slice bw m dw] 25)) w.heap.size (.slice af nf cf) (.slice ah nh ch) (.slice aw n cw) (.slice bf mf df) (.slice bh mh dh) (.slice bw m dw)):=Lib.hid (bat2_new _ _ _ _ _ _ _ _ _)
 clear hn1 hn2 hn3 hn4 hn5 hn6 e1 e2 e3;rw [HR.out];go_enter Tryz.func19,Tryz.ntmps19
 go_wp2_with fail
 generalize (w.alloc (.cells #[.slice af nf cf,.slice ah nh ch,.slice aw n cw] 25)).alloc (.cells #[.slice bf mf df,.slice bh mh dh,.slice bw m dw] 25)=W at HA HW0 ⊢;have HX0:=Lib.hid (HX.out.below HW0.out);have HY0:=Lib.hid (HY.out.below HW0.out);refine (requale_as _ _ f f2 c1 _ HX0.out.1 HY0.out.1 HX0.out.2.2.2.1 HY0.out.2.2.2.1 H1.out).mono ?_;rintro r w1 ⟨rfl,q1,rfl⟩;cases c1 with
 | false =>
   go_wp2;go_ret;exact ⟨rfl,below_drewN HW0.out _⟩
 | true =>
   obtain ⟨d0,d1,d2,d3,d4,d5⟩:=HA.out.drewN q1;go_wp2_with fail
   refine (requale_as _ _ h h2 c2 _ (HX0.out.2.1.drewN q1) (HY0.out.2.1.drewN q1) HX0.out.2.2.2.2.1 HY0.out.2.2.2.2.1 H2.out).mono ?_;rintro r w2 ⟨rfl,q2,rfl⟩;rw [World.drewN_drewN];clear d0 d1 d2 d3 d4 d5;cases c2 with
   | false =>
     go_wp2;go_ret;exact ⟨rfl,below_drewN HW0.out _⟩
   | true =>
     obtain ⟨d0,d1,d2,d3,d4,d5⟩:=HA.out.drewN (q1+q2);go_wp2_with fail
     refine (requalw_as _ _ l l2 c3 _ (HX0.out.2.2.1.drewN (q1+q2)) (HY0.out.2.2.1.drewN (q1+q2)) HX0.out.2.2.2.2.2.1 HY0.out.2.2.2.2.2.1 H3.out).mono ?_;rintro r w3 ⟨rfl,q3,rfl⟩;rw [World.drewN_drewN];clear d0 d1 d2 d3 d4 d5;go_wp2;go_ret;exact ⟨by first | rfl | simp,below_drewN HW0.out _⟩
end Go.Proofs.YtgfinhehgfbdgaaGreatDoor
