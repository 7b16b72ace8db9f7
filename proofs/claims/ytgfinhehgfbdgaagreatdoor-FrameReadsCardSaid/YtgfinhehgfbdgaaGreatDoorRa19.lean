import Derived.Test.YtgfinhehgfbdgaaGreatDoorRa17
namespace Go.Proofs.YtgfinhehgfbdgaaGreatDoor
open Go.RowKit
theorem unvary_ok (s:ByteArray) (w:World) (hs:s.size≤maxLen) (n k:Nat) (h:getL s.data.toList=(n,k,0)) :
   Calls Tryz.prog 84 #[.string s] w fun e w'=>e=.returned (.tuple #[.int .u64 n,.int .i64 k,.int .i64 0])∧w=w' :=
 (unvary_any s w hs).mono fun e w' ⟨h1,h2⟩=>⟨h1.trans (by rw [h];rfl),h2⟩
theorem unvary_bad (s:ByteArray) (w:World) (hs:s.size≤maxLen) (e:Nat) (h:getL s.data.toList=(0,0,e)) :
   Calls Tryz.prog 84 #[.string s] w fun r w'=>r=.returned (.tuple #[.int .u64 0,.int .i64 0,.int .i64 e])∧w=w' :=
 (unvary_any s w hs).mono fun r w' ⟨h1,h2⟩=>⟨h1.trans (by rw [h];rfl),h2⟩
set_option maxRecDepth 100000 in
set_option maxHeartbeats 1000000 in
theorem rint_any (s:ByteArray) (most:Int) (w:World) (hs:s.size≤maxLen) (h0 : -9223372036854775808≤most) (h1:most≤9223372036854775807) :
   Calls Tryz.prog 45 #[.string s,.int .i64 most] w fun r w'=>r=.returned (intR (intL s.data.toList most))∧w=w':=by
 rcases getL_cases s.data.toList with ⟨e,hg,he⟩ | ⟨n,k,hg,hn,hk1,hk2,hk3⟩
 · have HP : Hid (intR (intL s.data.toList most) = .tuple #[.int .i64 0, .int .i64 0, .int .i64 e]) := by
     show intR _=_
     rw [intL_bad hg he];rfl
   have HG:=Lib.hid hg;have hne:((e:Int) != 0)=true:=by simp;omega
   clear hg;rw [HP.out];go_enter Tryz.func45,Tryz.ntmps45
   go_wp2_with (go_at_call 84;refine (unvary_bad _ _ hs e HG.out).mono ?_;rintro r w' ⟨rfl,rfl⟩)
   go_ret3;exact ⟨rfl,rfl⟩
 · by_cases hm:most<0
   · have HP : Hid (intR (intL s.data.toList most) = .tuple #[.int .i64 0, .int .i64 0, .int .i64 2]) := by
       show intR _=_
       rw [intL_range hg (.inl hm)];rfl
     have HG:=Lib.hid hg;clear hg;rw [HP.out];go_enter Tryz.func45,Tryz.ntmps45
     go_wp2_with (go_at_call 84;refine (unvary_ok _ _ hs n k HG.out).mono ?_;rintro r w' ⟨rfl,rfl⟩)
     go_ret3;exact ⟨rfl,rfl⟩
   · have hm':0≤most:=by omega
     by_cases hr:most<(n:Int)
     · have HP : Hid (intR (intL s.data.toList most) = .tuple #[.int .i64 0, .int .i64 0, .int .i64 2]) := by
         show intR _=_
         rw [intL_range hg (.inr hr)];rfl
       have HG:=Lib.hid hg;clear hg hm;rw [HP.out];go_enter Tryz.func45,Tryz.ntmps45
       go_wp2_with (go_at_call 84;refine (unvary_ok _ _ hs n k HG.out).mono ?_;rintro r w' ⟨rfl,rfl⟩)
       go_ret3;exact ⟨rfl,rfl⟩
     · have HP : Hid (intR (intL s.data.toList most) = .tuple #[.int .i64 n, .int .i64 k, .int .i64 0]) := by
         show intR _=_
         rw [intL_ok hg (by omega)];rfl
       have HG:=Lib.hid hg;have hr':(n:Int)≤most:=by omega
       clear hg hm hr;rw [HP.out];go_enter Tryz.func45,Tryz.ntmps45
       go_wp2_with (go_at_call 84;refine (unvary_ok _ _ hs n k HG.out).mono ?_;rintro r w' ⟨rfl,rfl⟩)
       go_ret3;exact ⟨rfl,rfl⟩
end Go.Proofs.YtgfinhehgfbdgaaGreatDoor
namespace Go.Proofs.YtgfinhehgfbdgaaGreatDoor
open Go.RowKit
def WriteIs (w:World) (l:List Tok) (e:Ending) (w':World):Prop :=
 ∃ err,e=.returned (.tuple #[.string ⟨(writeF l).toArray⟩,err])∧atIs w' err (rightF l 0 0)∧Below w.heap.size w w'
set_option maxRecDepth 100000 in
set_option maxHeartbeats 2000000 in
theorem lzwrite_any (v:Value) (l:List Tok) (w:World) (hv:IsToks w v l) (hl:l.length≤9223372036854775807) (hz:∀ t∈l,t.own.size≤140737488351232) :
   Calls Tryz.prog 64 #[v] w (WriteIs w l):=by
 have HV:=Lib.hid hv;have HLL:=Lib.hid hl;have HZ:=Lib.hid hz;by_cases hr:(rightF l 0 0).1=0
 · have HR:=Lib.hid (rightF_any hr);have HW:Hid (writeF l=writeL l):=by
     have h:writeF l=writeL l:=by unfold writeF;rw [if_pos hr]
     exact h
   have HF:=Lib.hid (right_fine hr);obtain ⟨hfew,hcost,hsum⟩:=right_few hr;have HC:=Lib.hid hcost;have HSZ:Hid (∀ t∈l,t.own.size≤20000):=by
     have h:∀ t∈l,t.own.size≤20000:=right_own hr;exact h
   obtain ⟨a1,c1,rfl,f1⟩:=hv.form;have F1:=Lib.hid f1;obtain ⟨n,hn⟩:∃ n,n=l.length:=⟨_,rfl⟩;rw [←hn] at hl hfew ⊢ HV;have HN:=Lib.hid hn;have HR0:=Lib.hid hr;clear hv f1 hn hz hr hcost hsum;go_enter Tryz.func64,Tryz.ntmps64
   go_wp2_with fail
   refine (right_any _ l _ HV.out HLL.out HZ.out).mono ?_;rintro r w0 ⟨err,rfl,hat,hb0⟩;obtain rfl:err=.nilIface:=by
     rcases hat with ⟨_,h⟩ | ⟨h,_⟩
     · exact h
     · exact absurd HR0.out h
   have HB0:=Lib.hid hb0;have hsz0:=hb0.size;clear hat hb0;go_wp2;obtain ⟨B,hB⟩:∃ B,B=w0.heap.size:=⟨_,rfl⟩;have HBN:Hid (isBld (w0.alloc (.cells #[.pointer none,.slice none 0 0] 150)) w.heap.size B []):=by
     have h:=bld_new w0 w.heap.size hsz0;rw [←hB] at h;exact h
   rw [←hB];have HBB:=Lib.hid hB;clear hB
   go_loopw [15] (fun i wr=>∃ k:Nat,k≤n∧i=.int .i64 k∧isBld wr w.heap.size B (writeL (l.take k))∧Below w.heap.size w wr) (fun i _=>n-(intOf i).toNat)
   case atStart=>exact ⟨0,by omega,rfl,HBN.out,HB0.out.alloc hsz0 _⟩
   case round =>
     obtain ⟨k,hk,rfl,hbl,hbel⟩:=hrel;have HBL:=Lib.hid hbl;have HB:=Lib.hid hbel;clear hbl hbel;by_cases hlt:k<n
     · obtain ⟨t, ht⟩ : ∃ t, l[k]? = some t := ⟨l[k]'(by have := HN.out; omega), List.getElem?_eq_getElem _⟩;obtain ⟨b1,o1,rfl,hb1,p0,p1,p2⟩:=F1.out k t ht;have HSN:=Lib.hid (writeL_snoc l k t ht);have HTF:Hid (fine t):=(HF.out t (List.mem_of_getElem? ht)).1;have HTS:Hid (t.own.size≤20000):=HSZ.out t (List.mem_of_getElem? ht);have HTC:Hid (tokV t=.agg #[.string t.own,.int .i64 t.back,.int .i64 t.size]):=rfl;have HCT:Hid ((writeL (l.take k)).length+(putT t).length≤220000):=by
         have h:(writeL (l.take k)).length+(putT t).length≤220000:=by
           have h1:=cost_take (l:=l) (k+1);unfold cost at h1;rw [HSN.out,List.length_append] at h1;have:=HC.out;unfold cost at this;omega
         exact h
       obtain ⟨own,back,size⟩:=t;simp only at p0 p1 p2
       have q0:=(HB.out.cell (p:=⟨b1,o1+k * 3,none⟩) hb1).trans p0;have q1:=(HB.out.cell (p:=⟨b1,o1+k * 3+1,none⟩) hb1).trans p1;have q2:=(HB.out.cell (p:=⟨b1,o1+k * 3+2,none⟩) hb1).trans p2;have hzr:=HB.out.size;clear p0 p1 p2 ht;go_wp2_with fail
       refine (lzput_any ⟨own,back,size⟩ _ HTF.out HTS.out).mono ?_;rintro r w1 ⟨rfl,hb1'⟩;have HBL1:=Lib.hid ((HBL.out.alloc (.cells #[.string own,.int .i64 back,.int .i64 size] 163)).below hb1');have HB1:Hid (Below w.heap.size w w1):=(HB.out.alloc hzr _).trans (hb1'.mono (by simp;omega));have hzr1:=HB1.out.size;clear hb1' q0 q1 q2;go_wp2_with fail
       refine (bld_write w.heap.size B _ _ _ HBL1.out (by rw [bs_size];have:=HCT.out;omega) hzr1).mono ?_;rintro r w2 ⟨rfl,hbl2,hb2⟩;have HBL2:Hid (isBld w2 w.heap.size B (writeL (l.take (k+1)))):=by
         have h:isBld w2 w.heap.size B (writeL (l.take (k+1))):=by rw [HSN.out];exact hbl2
         exact h
       have HB2:=Lib.hid (HB1.out.trans hb2);clear hbl2 hb2;go_wp2;go_roundw
       case rel=>exact ⟨k+1,by omega,by go_num,HBL2.out,HB2.out⟩
       case measure=>simp [intOf];omega
     · have hkn:k=n:=by omega
       have HBL':Hid (isBld wr w.heap.size B (writeF l)):=by
         have h:isBld wr w.heap.size B (writeF l):=by
           have h:=HBL.out;rw [hkn,HN.out,List.take_length] at h;rw [HW.out];exact h
         exact h
       have hzr:=HB.out.size;clear hkn;go_wp2_with fail
       refine (bld_string w.heap.size B _ _ HBL'.out hzr).mono ?_;rintro r w1 ⟨rfl,hb1⟩;have HB1:=Lib.hid (HB.out.trans hb1);clear hb1;go_wp2;go_ret2;exact ⟨.nilIface,rfl,.inl ⟨HR.out,rfl⟩,HB1.out⟩
 · have HW : Hid (writeF l = []) := by
     have h:writeF l=[]:=by unfold writeF;rw [if_neg hr]
     exact h
   have HR0:=Lib.hid hr;obtain ⟨a1,c1,rfl,f1⟩:=hv.form;clear hv hz hr f1;go_enter Tryz.func64,Tryz.ntmps64
   go_wp2_with fail
   refine (right_any _ l _ HV.out HLL.out HZ.out).mono ?_;rintro r w0 ⟨err,rfl,hat,hb0⟩;have HAT:=Lib.hid hat;have HB0:=Lib.hid hb0;clear hb0;obtain ⟨t,u,rfl⟩:∃ t u,err=.iface t u:=by
     rcases hat with ⟨h,_⟩ | ⟨_,b,h,_⟩
     · exact absurd (by rw [h]) HR0.out
     · exact ⟨_,_,h⟩
   clear hat;go_wp2;go_ret2;exact ⟨_,by rw [HW.out];rfl,HAT.out,HB0.out⟩
end Go.Proofs.YtgfinhehgfbdgaaGreatDoor
namespace Go.Proofs.YtgfinhehgfbdgaaGreatDoor
open Go.RowKit
theorem bldLiesW:liesAt Tryz.prog Tryz.prog.depth 152 (2 / Tryz.prog.cellsOf 152) 0 150 1=true:=by kernel_rfl
def isBldW (w:World) (B b:Nat) (l:List UInt8):Prop:=Lib.IsBuilder 152 5 B b (Lib.byteCells l) w
theorem wbld_new (w:World) (B:Nat) (h:B≤w.heap.size):isBldW (w.alloc (.cells #[.pointer none,.slice none 0 0] 152)) B w.heap.size [] :=
 .inl ⟨h,.slice none 0 0,heap_alloc_new w _,World.ownsRow_nil _ _ _ _,by simp [Value.ownBlock]⟩
theorem isBldW.below {w w':World} {B b:Nat} {l:List UInt8} (h:isBldW w B b l) (hb:Below w.heap.size w w'):isBldW w' B b l:=by
 have hone:∀ {p:Value},Lib.BuilderAt 152 5 B b p (Lib.byteCells l) w→Lib.BuilderAt 152 5 B b p (Lib.byteCells l) w':=by
   intro p h;have hlt:=h.lt;obtain ⟨hB,v,hbk,hown,hne⟩:=h;refine ⟨hB,v,(hb.block b hlt).trans hbk,?_,hne⟩;refine World.ownsRow.kept hown (row:=none) ⟨hb.os,hb.tape,hb.output,hb.size,fun k hk _=>hb.block k hk⟩ ?_;cases hv:v.ownBlock with
   | none=>exact .inl rfl
   | some g=>exact .inr (by simp)
 rcases h with h | h
 · exact .inl (hone h)
 · exact .inr (hone h)
theorem isBldW.lt {w:World} {B b:Nat} {l:List UInt8} (h:isBldW w B b l):B≤b∧b<w.heap.size:=by
 rcases h with h | h
 · exact ⟨h.1,h.lt⟩
 · exact ⟨h.1,h.lt⟩
set_option maxRecDepth 100000 in
set_option maxHeartbeats 1000000 in
theorem wcopy_fresh (b:Nat) (w:World) (h0:w.cell? ⟨b,0,none⟩=some (.pointer none)) (hsh:w.shape? b=some (152,2)) (hfz:w.frozen? ⟨b,0,none⟩=false) :
   Calls Tryz.prog 168 #[.pointer (some ⟨b,0,none⟩)] w fun e w'=>e=.returned (.tuple #[])∧w'=w.setCell ⟨b,0,none⟩ (.pointer (some ⟨b,0,none⟩)):=by
 obtain ⟨j,hj,hjs⟩:=Option.map_eq_some_iff.1 bldSize;go_enter Tryz.func168,Tryz.ntmps168
 go_wp2;rw [Lib.run_to_unsafe w ⟨b,0,none⟩ Tryz.underlying148 Tryz.underlying169 hj (by rw [hjs];decide) hsh (Nat.zero_lt_succ 1)];simp only [Result.andThen]
 rw [Oper.upon_value];go_wp2;rw [run_callFunc_extern Tryz.func198 (by kernel_rfl) (by kernel_rfl) (by kernel_rfl) (e:=Extern.AbiNoEscape.same) (by kernel_rfl)];rw [Lib.run_noEscape];simp only [Result.andThen]
 rw [Oper.upon_value];go_wp2;rw [Lib.run_from_unsafe w ⟨b,0,none⟩ Tryz.underlying169 Tryz.underlying148 hj hsh bldLiesW];simp only [Result.andThen]
 rw [Oper.upon_value];go_wp2
 go_end0
 exact ⟨rfl,rfl⟩
theorem wcopy_any (B b:Nat) (l:List UInt8) (w:World) (h:isBldW w B b l) :
   Calls Tryz.prog 168 #[.pointer (some ⟨b,0,none⟩)] w fun e w'=>e=.returned (.tuple #[])∧Lib.BuilderAt 152 5 B b (.pointer (some ⟨b,0,none⟩)) (Lib.byteCells l) w'∧Below B w w'∧NonB b w w'∧w'.heap.size=w.heap.size:=by
 rcases h with h | h
 · refine (wcopy_fresh b w h.cell0 h.shape h.frozen0).mono ?_;rintro e w' ⟨rfl,rfl⟩;exact ⟨rfl,h.used _,(Below.refl B w).setCell (p:=⟨b,0,none⟩) h.1 _,fun k _ hk _=>heap_setCell_other _ _ _ _ (fun e=>hk e),by simp⟩
 · refine (copy_used b w h.cell0).mono ?_;rintro e w' ⟨rfl,rfl⟩;exact ⟨rfl,h,Below.refl B _,fun k _ _ _=>rfl,rfl⟩
set_option maxRecDepth 100000 in
set_option maxHeartbeats 2000000 in
theorem wbld_write (B b:Nat) (l:List UInt8) (s:ByteArray) (w:World) (h:isBldW w B b l) (hlen:l.length+s.size≤140737488355328) (hBw:B≤w.heap.size) :
   Calls Tryz.prog 122 #[.pointer (some ⟨b,0,none⟩),.string s] w fun e w'=>e=.returned (.tuple #[.int .i64 s.size,.nilIface])∧isBldW w' B b (l++s.data.toList)∧Below B w w'∧NonB b w w':=by
 obtain ⟨i0,hi,hz0,hz1,hz2⟩:=info_parts info_u8;have hbl:(Lib.byteCells l).length=l.length:=by simp [Lib.byteCells]
 go_enter Tryz.func122,Tryz.ntmps122
 go_wp2_with fail
 refine (wcopy_any B b l _ h).mono ?_;rintro e w1 ⟨rfl,h1,hb1,hn1,hs1⟩;have HN1:=Lib.hid hn1;have HS1:=Lib.hid hs1;obtain ⟨hB,v,hbk,hown,hne⟩:=h1;have c0:w1.cell? ⟨b,0,none⟩=some (.pointer (some ⟨b,0,none⟩)):=by rw [Lib.cell_of_heap hbk];rfl
 have c1:w1.cell? ⟨b,1,none⟩=some v:=by rw [Lib.cell_of_heap hbk];rfl
 clear hn1 hs1;go_wp2_with (at_builtin;refine Lib.wpList_append_own_string _ rfl _ _ 56 9 rfl B 5 i0 Tryz.underlying56 Tryz.underlying9 hi hz0 hz1 hz2 _ _ _ rfl hown s rfl ?c3 ?c4 ?c5 ?_)
 case c3=>rw [hbl];unfold maxLen;omega
 case c4=>rw [hbl];omega
 case c5=>have:=hb1.size;omega
 intro v' w2 hown' hgrow _;have hlt:b<w1.heap.size:=by
   rcases Nat.lt_or_ge b w1.heap.size with h' | h'
   · exact h'
   · simp [Array.getElem?_eq_none h'] at hbk
 have hb2:w2.heap[b]? = some (.cells #[.pointer (some ⟨b,0,none⟩),v] 152 (0,0)):=by
   rw [hgrow.block b hlt (fun e=>hne e.symm)];exact hbk
 have d0:w2.cell? ⟨b,0,none⟩=some (.pointer (some ⟨b,0,none⟩)):=by rw [Lib.cell_of_heap hb2];rfl
 have d1:w2.cell? ⟨b,1,none⟩=some v:=by rw [Lib.cell_of_heap hb2];rfl
 have f1:w2.frozen? ⟨b,1,none⟩=false:=Lib.frozen_of_heap hb2 1;obtain ⟨ao,n',cap,rfl⟩:∃ ao n' cap,v'=.slice ao n' cap:=by
   rcases hown'.2 with ⟨hv,_⟩ | ⟨g,cap,cur,hv,_⟩
   · exact ⟨_,_,_,hv⟩
   · exact ⟨_,_,_,hv⟩
 have HO:Hid (w2.ownsRow B 5 1 (.slice ao n' cap) (Lib.byteCells (l++s.data.toList)).length (Lib.byteCells (l++s.data.toList))):=by
   have h:w2.ownsRow B 5 1 (.slice ao n' cap) (Lib.byteCells (l++s.data.toList)).length (Lib.byteCells (l++s.data.toList)):=by
     have e:Lib.byteCells (l++s.data.toList)=Lib.byteCells l++Lib.strCells s:=by simp [Lib.byteCells,Lib.strCells]
     rw [e,List.length_append,Lib.strCells_length,hbl];exact hown'
   exact h
 have HNB:Hid (NonB b w1 w2):=Lib.hid (show NonB b w1 w2 from fun k hk hkb hu=>hgrow.block k hk (fun e=>by
   rcases hown.2 with ⟨hv,_⟩ | ⟨g,cap',cur,hv,_,hh,_⟩
   · rw [hv] at e;cases e
   · rw [hv] at e;have:k=g:=by simpa [Value.ownBlock] using e
     subst this;exact hu _ _ hh))
 have HSZ:Hid (w1.heap.size≤w2.heap.size):=Lib.hid hgrow.size;clear hown';go_wp2;go_ret2;refine ⟨rfl,.inr ?_,?_,?_⟩
 · exact Lib.BuilderAt.put (T:=152) (e:=5) hB hb2 HO.out (by decide)
 · exact (hb1.grown hgrow (by have:=hb1.size;omega) (fun k hk=>(hown.lt k hk).1)).setCell (p:=⟨b,1,none⟩) hB _
 · refine ((HN1.out.trans HNB.out (by rw [HS1.out];exact Nat.le_refl _)).trans (fun k _ hk _=>heap_setCell_other _ _ _ _ (fun e=>hk e)) ?_);rw [←HS1.out];exact HSZ.out
set_option maxRecDepth 100000 in
set_option maxHeartbeats 2000000 in
theorem wbld_byte (B b:Nat) (l:List UInt8) (c:UInt8) (w:World) (h:isBldW w B b l) (hlen:l.length+1≤140737488355328) (hBw:B≤w.heap.size) :
   Calls Tryz.prog 116 #[.pointer (some ⟨b,0,none⟩),.int .u8 (c.toNat:Int)] w fun e w'=>e=.returned .nilIface∧isBldW w' B b (l++[c])∧Below B w w'∧NonB b w w':=by
 obtain ⟨i0,hi,hz0,hz1,hz2⟩:=info_parts info_u8;have hbl:(Lib.byteCells l).length=l.length:=by simp [Lib.byteCells]
 go_enter Tryz.func116,Tryz.ntmps116
 go_wp2_with fail
 refine (wcopy_any B b l _ h).mono ?_;rintro e w1 ⟨rfl,h1,hb1,hn1,hs1⟩;have HN1:=Lib.hid hn1;have HS1:=Lib.hid hs1;obtain ⟨hB,v,hbk,hown,hne⟩:=h1;have c0:w1.cell? ⟨b,0,none⟩=some (.pointer (some ⟨b,0,none⟩)):=by rw [Lib.cell_of_heap hbk];rfl
 have c1:w1.cell? ⟨b,1,none⟩=some v:=by rw [Lib.cell_of_heap hbk];rfl
 clear hn1 hs1;have hownB:ownsB w1 B v l:=by have h:=hown;rw [hbl] at h;exact h
 go_wp2_with (at_builtin;refine wpList_append_byte rfl _ _ rfl B v l rfl (hownB.alloc _) ⟨w1.heap.size,0,none⟩ 1 rfl (c.toNat:Int) c ?c3 rfl ?c4 ?c5 ?_)
 case c3=>simp [Addr.add]
 case c4=>omega
 case c5=>have:=hb1.size;simp;omega
 intro v' w2 hown' hgrow0 _;have hgrow:w1.grownBy w2 v.ownBlock:=⟨hgrow0.os,hgrow0.tape,hgrow0.output,Nat.le_trans (by simp) hgrow0.size,fun k hk hne=>(hgrow0.block k (by simp;omega) hne).trans (Below.heap_alloc _ _ _ hk)⟩;have hlt:b<w1.heap.size:=by
   rcases Nat.lt_or_ge b w1.heap.size with h' | h'
   · exact h'
   · simp [Array.getElem?_eq_none h'] at hbk
 have hb2:w2.heap[b]? = some (.cells #[.pointer (some ⟨b,0,none⟩),v] 152 (0,0)):=by
   rw [hgrow.block b hlt (fun e=>hne e.symm)];exact hbk
 have d0:w2.cell? ⟨b,0,none⟩=some (.pointer (some ⟨b,0,none⟩)):=by rw [Lib.cell_of_heap hb2];rfl
 have d1:w2.cell? ⟨b,1,none⟩=some v:=by rw [Lib.cell_of_heap hb2];rfl
 have f1:w2.frozen? ⟨b,1,none⟩=false:=Lib.frozen_of_heap hb2 1;obtain ⟨ao,n',cap,rfl⟩:∃ ao n' cap,v'=.slice ao n' cap:=by
   rcases hown'.2 with ⟨hv,_⟩ | ⟨g,cap,cur,hv,_⟩
   · exact ⟨_,_,_,hv⟩
   · exact ⟨_,_,_,hv⟩
 have HO:Hid (w2.ownsRow B 5 1 (.slice ao n' cap) (Lib.byteCells (l++[c])).length (Lib.byteCells (l++[c]))):=by
   have h:w2.ownsRow B 5 1 (.slice ao n' cap) (Lib.byteCells (l++[c])).length (Lib.byteCells (l++[c])):=by
     have e:(Lib.byteCells (l++[c])).length=(l++[c]).length:=by simp [Lib.byteCells]
     rw [e];exact hown'
   exact h
 have HNB:Hid (NonB b w1 w2):=Lib.hid (show NonB b w1 w2 from fun k hk hkb hu=>hgrow.block k hk (fun e=>by
   rcases hown.2 with ⟨hv,_⟩ | ⟨g,cap',cur,hv,_,hh,_⟩
   · rw [hv] at e;cases e
   · rw [hv] at e;have:k=g:=by simpa [Value.ownBlock] using e
     subst this;exact hu _ _ hh))
 have HSZ:Hid (w1.heap.size≤w2.heap.size):=Lib.hid hgrow.size;clear hown' hownB;go_wp2;go_ret;refine ⟨rfl,.inr ?_,?_,?_⟩
 · exact Lib.BuilderAt.put (T:=152) (e:=5) hB hb2 HO.out (by decide)
 · exact (hb1.grown hgrow (by have:=hb1.size;omega) (fun k hk=>(hown.lt k hk).1)).setCell (p:=⟨b,1,none⟩) hB _
 · refine ((HN1.out.trans HNB.out (by rw [HS1.out];exact Nat.le_refl _)).trans (fun k _ hk _=>heap_setCell_other _ _ _ _ (fun e=>hk e)) ?_);rw [←HS1.out];exact HSZ.out
set_option maxRecDepth 100000 in
theorem wbld_len (B b:Nat) (l:List UInt8) (w:World) (h:isBldW w B b l) :
   Calls Tryz.prog 119 #[.pointer (some ⟨b,0,none⟩)] w fun e w'=>e=.returned (.int .i64 (l.length:Int))∧w=w':=by
 have hbl:(Lib.byteCells l).length=l.length:=by simp [Lib.byteCells]
 obtain ⟨p,hB,v,hbk,hown,hne⟩:∃ p,Lib.BuilderAt 152 5 B b p (Lib.byteCells l) w:=by
   rcases h with h | h
   · exact ⟨_,h⟩
   · exact ⟨_,h⟩
 have c1:w.cell? ⟨b,1,none⟩=some v:=by rw [Lib.cell_of_heap hbk];rfl
 obtain ⟨a,cp,rfl⟩:∃ a cp,v=.slice a l.length cp:=by
   rcases hown.2 with ⟨hv,h0⟩ | ⟨g,cap,cur,hv,_⟩
   · exact ⟨none,0,by rw [hv];rw [hbl] at h0;rw [h0]⟩
   · exact ⟨_,_,by rw [hv,hbl]⟩
 generalize l.length=n at c1 ⊢;clear hown hbk hne hbl h;go_enter Tryz.func119,Tryz.ntmps119
 go_wp2;go_ret;exact ⟨rfl,rfl⟩
set_option maxRecDepth 100000 in
set_option maxHeartbeats 2000000 in
theorem wbld_string (B b:Nat) (l:List UInt8) (w:World) (h:isBldW w B b l) (h0:l≠[]) :
   Calls Tryz.prog 120 #[.pointer (some ⟨b,0,none⟩)] w fun e w'=>e=.returned (.string ⟨l.toArray⟩)∧Below B w w':=by
 have hbl:(Lib.byteCells l).length=l.length:=by simp [Lib.byteCells]
 obtain ⟨p,hB,v,hbk,hown,hne⟩:∃ p,Lib.BuilderAt 152 5 B b p (Lib.byteCells l) w:=by
   rcases h with h | h
   · exact ⟨_,h⟩
   · exact ⟨_,h⟩
 rw [hbl] at hown;have hpos:0<l.length:=List.length_pos_iff.2 h0;obtain ⟨g,cap,cur,hv,hbg,hg,hcl,hcm,hcs⟩:∃ g cap cur,v=.slice (some ⟨g,0,none⟩) l.length cap∧B≤g∧w.heap[g]? = some (.cells cur 5 (0,0))∧l.length≤cap∧cap≤maxLen∧cur.size=cap * 1:=by
   rcases hown.2 with ⟨hv,hn⟩ | ⟨g,cap,cur,hv,hb,hh,hc,hm,hs,_⟩
   · exact absurd hn (by omega)
   · exact ⟨g,cap,cur,hv,hb,hh,hc,hm,hs⟩
 subst hv;have c1:w.drew.cell? ⟨b,1,none⟩=some (.slice (some ⟨g,0,none⟩) l.length cap):=by
   have:w.drew.heap[b]? = some (.cells #[p,.slice (some ⟨g,0,none⟩) l.length cap] 152 (0,0)):=hbk;rw [Lib.cell_of_heap this];rfl
 have hSD:(Builtin.unsafeSliceData_ #[56] 221 #[.slice (some ⟨g,0,none⟩) l.length cap]).run Tryz.prog w.drew=.ok (.pointer (some ⟨g,0,none⟩)) w.drew :=
   Lib.run_unsafeSliceData_row _ _ _ _ _ _ (by omega)
 have hUS:(Builtin.unsafeString_ #[221,3] 9 #[.pointer (some ⟨g,0,none⟩),.int .i64 l.length]).run Tryz.prog w.drew=.ok (.string ⟨l.toArray⟩) (w.drew.freeze ⟨g,0,none⟩ l.length):=by
   refine Lib.run_unsafeString_row w.drew 221 3 9 5 Tryz.underlying221 (by kernel_rfl) g cur.size (by have hg':w.drew.heap[g]? = some (.cells cur 5 (0,0)):=hg;simp [World.shape?,hg']) l h0 (by omega) (by unfold maxLen at hcm;omega) ?_;intro j x hx;have:=hown.cells (g:=g) rfl j (.int .u8 x.toNat) (by simp [Lib.byteCells,hx]);exact this
 clear hown hcl hcm hpos hcs;go_enter Tryz.func120,Tryz.ntmps120
 go_wp2;go_region
 all_goals (go_wp2;go_ret;exact ⟨rfl,Lib.below_freeze (Below.drew (Below.refl B w)) (p:=⟨g,0,none⟩) hbg _⟩)
end Go.Proofs.YtgfinhehgfbdgaaGreatDoor
namespace Go.Proofs.YtgfinhehgfbdgaaGreatDoor
open Go.RowKit
theorem info_run:(Tryz.prog.info? 22).map (fun i=>(i.zero,i.size,i.bytes))=some (some (.slice none 0 0),1,24):=by kernel_rfl
def ownsR (w:World) (base:Nat) (v:Value) (l:List Value):Prop:=w.ownsRow base 22 1 v l.length l
theorem ownsR_nil (w:World) (base:Nat):ownsR w base (.slice none 0 0) []:=World.ownsRow_nil _ _ _ _
theorem ownsR.alloc {w:World} {base:Nat} {v:Value} {l:List Value} (h:ownsR w base v l) (o:Obj):ownsR (w.alloc o) base v l:=World.ownsRow.alloc h o
theorem ownsR.drewN {w:World} {base:Nat} {v:Value} {l:List Value} (h:ownsR w base v l) (n:Nat):ownsR (w.drewN n) base v l:=h
theorem ownsR.lt {w:World} {base:Nat} {v:Value} {l:List Value} (h:ownsR w base v l):∀ k,v.ownBlock=some k→base≤k∧k<w.heap.size:=World.ownsRow.lt h
theorem ownsR.below {w w':World} {base:Nat} {v:Value} {l:List Value} (h:ownsR w base v l) (hb:Below w.heap.size w w'):ownsR w' base v l:=by
 refine World.ownsRow.kept h (row:=none) ⟨hb.os,hb.tape,hb.output,hb.size,fun k hk _=>hb.block k hk⟩ ?_;cases hv:v.ownBlock with
 | none=>exact .inl rfl
 | some g=>exact .inr (by simp)
theorem ownsR.forms {w:World} {base:Nat} {v:Value} {l:List Value} (h:ownsR w base v l) :
   (v=.slice none 0 0∧l=[])∨∃ g cap,v=.slice (some ⟨g,0,none⟩) l.length cap∧base≤g∧g<w.heap.size∧(∃ cur,w.heap[g]? = some (.cells cur 22 (0,0)))∧∀ j u,l[j]? = some u→w.cell? ⟨g,j,none⟩=some u:=by
 have hall:=h;obtain ⟨h0,h1⟩:=h;rcases h1 with ⟨rfl,hn⟩ | ⟨g,cap,cur,rfl,hb,hh,hc,hm,hs,ht⟩
 · exact .inl ⟨rfl,List.length_eq_zero_iff.1 hn⟩
 · refine .inr ⟨g,cap,rfl,hb,(World.ownsRow.lt hall g rfl).2,⟨cur,hh⟩,fun j u hj=>?_⟩;have hjl:j<l.length:=(List.getElem?_eq_some_iff.1 hj).1;rw [World.ownsRow.cellAt hall j (by omega)];exact hj
theorem wpList_append_run {w:World} {ops:Array Oper} {rest:List Oper} {o:Oper} {a:Act} {Q:Exit→Act→World→Prop} (hgd:o.guard=none) (s x:Operand)
   (ho:o.op=.call { callee:=.builtin .append,args:=#[s,x],argTypes:=#[184,184] })
   (base:Nat) (v:Value) (l:List Value) (hs:a.eval s=v) (hown:ownsR w base v l)
   (ad:Addr) (c:Nat) (hx:a.eval x=.slice (some ad) 1 c) (d:Value) (hd:∃ a n m,d=.slice a n m) (hcell:w.cell? (ad.add 0)=some d)
   (hlen:l.length+1≤1000000) (hbase:base≤w.heap.size)
   (h:∀ g cap w',ownsR w' base (.slice (some ⟨g,0,none⟩) (l.length+1) cap) (l++[d])→w.grownBy w' v.ownBlock→wpList Tryz.prog ops Q rest (a.put o.dst (.slice (some ⟨g,0,none⟩) (l.length+1) cap)) w'):wpList Tryz.prog ops Q (o::rest) a w:=by
 obtain ⟨i0,hi,hz0,hz1,hz2⟩:=info_parts info_run;refine wpList_append_lies w hgd s x 184 ho base 22 i0 (.slice none 0 0) 1 24 Tryz.underlying184 hi hz0 hz1 hz2 rfl (by decide) v l.length l hs hown ad 1 c [d] hx rfl ?_ ?_ (by decide) (by unfold maxLen;omega) (by omega) hbase _ rfl ?_
 · intro j u hj
   match j,hj with
   | 0,hj=>simp at hj;subst hj;exact hcell
 · intro u hu;simp at hu;subst hu;obtain ⟨a,n,m,rfl⟩:=hd;rfl
 · intro g cap w' h1 h2 _ _;refine h g cap w' ?_ h2;unfold ownsR;rw [List.length_append];exact h1
def areE (w:World):List Value→List (List Ent)→Prop
 | [],[]=>True
 | v::vs,r::rs=>IsEnts w v r∧areE w vs rs
 | _,_=>False
theorem areE_len {w:World} {vs:List Value}:∀ {rs:List (List Ent)},areE w vs rs→vs.length=rs.length:=by
 induction vs with
 | nil=>intro rs h;cases rs with
   | nil=>rfl
   | cons r rs=>exact h.elim
 | cons v vs ih=>intro rs h;cases rs with
   | nil=>exact h.elim
   | cons r rs=>simp [ih h.2]
theorem areE_snoc {w:World} {vs:List Value} {v:Value} {r:List Ent} (hv:IsEnts w v r):∀ {rs:List (List Ent)},areE w vs rs→areE w (vs++[v]) (rs++[r]):=by
 induction vs with
 | nil=>intro rs h;cases rs with
   | nil=>exact ⟨hv,trivial⟩
   | cons r rs=>exact h.elim
 | cons v vs ih=>intro rs h;cases rs with
   | nil=>exact h.elim
   | cons r rs=>exact ⟨h.1,ih h.2⟩
theorem areE_at {w:World} {vs:List Value}:∀ {rs:List (List Ent)} {i:Nat} {r:List Ent},areE w vs rs→rs[i]? = some r→∃ v,vs[i]? = some v∧IsEnts w v r:=by
 induction vs with
 | nil=>intro rs i r h hi;cases rs with
   | nil=>simp at hi
   | cons r rs=>exact h.elim
 | cons v vs ih=>intro rs i r h hi;cases rs with
   | nil=>exact h.elim
   | cons r rs=>cases i with
     | zero=>simp at hi;subst hi;exact ⟨v,by simp,h.1⟩
     | succ i=>simp at hi;obtain ⟨u,h1,h2⟩:=ih h.2 hi;exact ⟨u,by simpa using h1,h2⟩
end Go.Proofs.YtgfinhehgfbdgaaGreatDoor
namespace Go.Proofs.YtgfinhehgfbdgaaGreatDoor
open Go.RowKit
set_option maxRecDepth 100000 in
theorem behind_any (v:Value) (l:List Ent) (w:World) (hv:IsEnts w v l) (h0:l≠[]) (hl:l.length≤1000000) (hr:∀ e∈l,0≤e.rep∧e.rep≤1000000) :
   Calls Tryz.prog 167 #[v] w fun r w'=>r=.returned (.int .i64 ((l.getLastD ⟨0,0⟩).rep+2))∧w=w':=by
 have hlen:0<l.length:=List.length_pos_iff.2 h0;obtain ⟨a1,c1,rfl,f1⟩:=hv.form;have ht:l[l.length-1]? = some (l.getLastD ⟨0,0⟩):=by
   rw [←List.getLast?_eq_getElem?];cases l with
   | nil=>exact absurd rfl h0
   | cons e t=>simp [List.getLast?_cons]
 obtain ⟨b1,o1,rfl,_,p0,_⟩:=f1 _ _ ht;have hm:=hr _ (List.mem_of_getElem? ht);generalize l.getLastD ⟨0,0⟩=e at *;obtain ⟨rep,time⟩:=e;simp only at p0 hm ⊢
 obtain ⟨n,hn⟩:∃ n,n=l.length:=⟨_,rfl⟩;rw [←hn] at hl hlen p0 ⊢;obtain ⟨j,hj⟩:∃ j,j=n-1:=⟨_,rfl⟩;rw [←hj] at p0;have hj1:(n:Int)-1=(j:Int):=by omega
 have hj2:j<n:=by omega
 clear hv f1 hn ht hr h0 hj;go_enter Tryz.func167,Tryz.ntmps167
 go_wp2;go_ret;exact ⟨rfl,rfl⟩
def CutIs (w:World) (u:Value) (l:List Ent) (rs:List (List Ent)) (e:Ending) (w':World):Prop :=
 ∃ v vs,e=.returned v∧ownsR w' w.heap.size v vs∧(∀ W,IsEnts W u l→areE W vs rs)∧vs.length=rs.length∧Below w.heap.size w w'
set_option maxRecDepth 100000 in
set_option maxHeartbeats 4000000 in
theorem cut_any (v:Value) (l:List Ent) (w:World) (hv:IsEnts w v l) (hl:l.length≤100000) (hr:∀ e∈l,0≤e.rep∧e.rep≤1000000) :
   Calls Tryz.prog 166 #[v] w (CutIs w v l (runsL l)):=by
 by_cases hz:l.length=0
 · obtain rfl:=List.length_eq_zero_iff.1 hz;obtain ⟨a1,c1,rfl,_⟩:=hv.form;have HR:Hid (runsL ([]:List Ent)=[]):=rfl;rw [HR.out];clear hv hl hr hz;go_enter Tryz.func166,Tryz.ntmps166
   go_wp2;refine wp_loop_rounds 1 ?_;rw [rounds_succ];go_wp2;go_ret;exact ⟨_,[],rfl,ownsR_nil _ _,fun _ _=>trivial,rfl,Below.refl _ _⟩
 · obtain ⟨b,off,c,rfl,hlc,hb,hcells⟩:=hv.lies (by omega);have HC:=Lib.hid hcells;obtain ⟨a1,c1,hav,f1⟩:=hv.form;simp only [Value.slice.injEq,true_and] at hav
   obtain ⟨rfl,rfl⟩:=hav;have F1:=Lib.hid f1;have HR:=Lib.hid hr;obtain ⟨n,hn⟩:∃ n,n=l.length:=⟨_,rfl⟩;rw [←hn] at hl hlc hz ⊢ hv;have HV:=Lib.hid hv;have HN:=Lib.hid hn;have HLC:=Lib.hid hlc;clear hv f1 hn hcells hr;go_enter Tryz.func166,Tryz.ntmps166
   go_wp2
   go_loopw [3,4,8] (fun rv fv i wr=>∃ (k fr:Nat) (vs:List Value) (R:List (List Ent)),k≤n∧i=.int .i64 k∧fv=.int .i64 fr∧fr≤k∧vs.length≤k∧R++cutA ((l.take k).drop fr) (l.drop k)=runsL l∧ownsR wr w.heap.size rv vs∧(∀ W,IsEnts W (.slice (some ⟨b,off,none⟩) n c) l→areE W vs R)∧Below w.heap.size w wr) (fun _ _ i _=>n-(intOf i).toNat)
   case atStart=>exact ⟨0,0,[],[],by omega,rfl,rfl,by omega,Nat.le_refl _,rfl,ownsR_nil _ _,(fun _ _=>trivial),Below.refl _ _⟩
   case round =>
     obtain ⟨k,fr,vs,R,hk,rfl,rfl,hfr,hvs,heq,hown,hare,hbel⟩:=hrel;have HEQ:=Lib.hid heq;have HO:=Lib.hid hown;have HA:=Lib.hid hare;have HB:=Lib.hid hbel;have hzr:=hbel.size;clear heq hown hare hbel;by_cases hlt:k<n
     · have hkl:k<l.length:=by have:=HN.out;omega
       obtain ⟨t,ht⟩:∃ t,l[k]? = some t:=⟨l[k],List.getElem?_eq_getElem hkl⟩;have hd:l.drop k=t::l.drop (k+1):=by
         rw [List.drop_eq_getElem_cons hkl];congr 1;rw [List.getElem?_eq_getElem hkl] at ht;exact Option.some.inj ht
       have htk:l.take (k+1)=l.take k++[t]:=by
         rw [List.take_succ_eq_append_getElem hkl];congr 2;rw [List.getElem?_eq_getElem hkl] at ht;exact Option.some.inj ht
       have hcur:(l.take (k+1)).drop fr=(l.take k).drop fr++[t]:=by
         rw [htk,List.drop_append_of_le_length (by rw [List.length_take];omega)]
       obtain ⟨b1,o1,hbo,_,p0,_⟩:=F1.out k t ht;simp only [Option.some.injEq,Addr.mk.injEq,and_true] at hbo
       obtain ⟨rfl,rfl⟩:=hbo;have hm:=HR.out t (List.mem_of_getElem? ht);have q0:=(HB.out.cell (p:=⟨b,off+k * 2,none⟩) hb).trans p0;obtain ⟨k1,hk1⟩:∃ k1,k1=k+1:=⟨_,rfl⟩;rw [←hk1] at hd htk hcur;have hfk:fr<k1:=by omega
       have hfk':(fr:Int)≤(k1:Int):=by omega
       have hkc:k1≤c:=by have:=HLC.out;omega
       have hkc':(k1:Int)≤(c:Int):=by omega
       have HP:Hid (∀ W,IsEnts W (.slice (some ⟨b,off,none⟩) n c) l→IsEnts W (.slice (some ⟨b,off+fr * 2,none⟩) (k1-fr) (c-fr)) ((l.take k1).drop fr)):=Lib.hid (show ∀ W,IsEnts W (.slice (some ⟨b,off,none⟩) n c) l→IsEnts W (.slice (some ⟨b,off+fr * 2,none⟩) (k1-fr) (c-fr)) ((l.take k1).drop fr) from fun W hW=>by
         obtain ⟨b',off',c',hv',hc',hb',hcs'⟩:=hW.lies (by omega);simp only [Value.slice.injEq,Option.some.injEq,Addr.mk.injEq,and_true] at hv'
         obtain ⟨⟨rfl,rfl⟩,_,rfl⟩:=hv';exact IsEnts.part hcs' hb' fr k1 (by have:=HN.out;omega) hfk rfl (by omega))
       by_cases hlast:k1=n
       · subst hlast;have hdn:l.drop k1=[]:=List.drop_eq_nil_of_le (by have:=HN.out;omega);have hcl:cutA ((l.take k).drop fr) (l.drop k)=[(l.take k1).drop fr]:=by
           rw [hd,hdn,cutA_one,hcur]
         have HS:Hid ((R++[(l.take k1).drop fr])++cutA ((l.take k1).drop k1) (l.drop k1)=runsL l):=Lib.hid (show (R++[(l.take k1).drop fr])++cutA ((l.take k1).drop k1) (l.drop k1)=runsL l by
           rw [←HEQ.out,hcl,hdn];have:∀ cur,cutA cur []=[]:=fun _=>rfl
           rw [this,List.append_nil])
         have hw1:(k:Int)+1=(k1:Int):=by omega
         have hw2:IntKind.i64.wrap ((k:Int)+1)=(k1:Int):=by rw [hw1];exact IntWalk.i64_in _ (by omega)
         have hw3:IntKind.i64.wrap (t.rep+1)=t.rep+1:=IntWalk.i64_in _ (by omega);have HK1:=Lib.hid hk1;clear hcl hcur htk hd ht p0 hm hk1 hdn;go_wp2
         go_quiet (fail)
         clear hw2 hw3;go_wp2_with (at_builtin;refine wpList_append_run rfl _ _ rfl w.heap.size _ vs rfl ((HO.out.drewN _).alloc _) ⟨wr.heap.size,0,none⟩ 1 rfl (.slice (some ⟨b,off+fr * 2,none⟩) (k1-fr) (c-fr)) ⟨_,_,_,rfl⟩ ?c1 ?c2 ?c3 ?_)
         case c1=>simp [Addr.add];exact cell_of_row _ _ 0 _ _ (0,0) (heap_alloc_new (World.drewN wr _) _)
         case c2=>omega
         case c3=>simp;omega
         · intro g cap w2 ho2 hg2;have HB2:Hid (Below w.heap.size w w2):=(((below_drewN HB.out _).alloc (by simp;omega) _).grown hg2 (by simp;omega) (fun g hg=>(HO.out.lt g hg).1));have HO2:=Lib.hid ho2;have HA2:Hid (∀ W,IsEnts W (.slice (some ⟨b,off,none⟩) k1 c) l→areE W (vs++[(.slice (some ⟨b,off+fr * 2,none⟩) (k1-fr) (c-fr):Value)]) (R++[(l.take k1).drop fr])):=Lib.hid (fun W hW=>areE_snoc (HP.out W hW) (HA.out W hW));obtain ⟨vs2,hvs2⟩:∃ vs2,vs++[(.slice (some ⟨b,off+fr * 2,none⟩) (k1-fr) (c-fr):Value)]=vs2:=⟨_,rfl⟩;have hvl:vs2.length=vs.length+1:=by rw [←hvs2];simp
           rw [hvs2] at HO2 HA2;rw [←hvl] at HO2 ⊢;clear ho2 hg2 hvs2;go_wp2;go_roundw
           case rel=>exact ⟨k1,k1,vs2,_,by omega,by first | rfl | go_num,by first | rfl | go_num,Nat.le_refl _,by have:=HK1.out;omega,HS.out,HO2.out,HA2.out,HB2.out⟩
           case measure=>have:=HK1.out;simp [intOf];omega
       · have hk1l:k1<l.length:=by have:=HN.out;omega
         obtain ⟨d,hdd⟩:∃ d,l[k1]? = some d:=⟨l[k1],List.getElem?_eq_getElem hk1l⟩;have hd1:l.drop k1=d::l.drop (k1+1):=by
           rw [List.drop_eq_getElem_cons hk1l];congr 1;rw [List.getElem?_eq_getElem hk1l] at hdd;exact Option.some.inj hdd
         obtain ⟨b1,o1,hbo,_,p1,_⟩:=F1.out k1 d hdd;simp only [Option.some.injEq,Addr.mk.injEq,and_true] at hbo
         obtain ⟨rfl,rfl⟩:=hbo;have q1:=(HB.out.cell (p:=⟨b,off+k1 * 2,none⟩) hb).trans p1;have hk1n:k1<n:=by omega
         have hk1n':(k1:Int)<(n:Int):=by omega
         have hn1:((k1:Int) == (n:Int))=false:=by simp;omega
         by_cases hgp:t.rep+1<d.rep
         · have hcl : cutA ((l.take k).drop fr) (l.drop k) = (l.take k1).drop fr :: cutA [] (l.drop k1) := by
             rw [hd,hd1,cutA_cut hgp,hcur]
           have HS:Hid ((R++[(l.take k1).drop fr])++cutA ((l.take k1).drop k1) (l.drop k1)=runsL l):=Lib.hid (show (R++[(l.take k1).drop fr])++cutA ((l.take k1).drop k1) (l.drop k1)=runsL l by
             rw [←HEQ.out,hcl,List.drop_eq_nil_of_le (show (l.take k1).length≤k1 by rw [List.length_take];omega)];simp)
           have hw1:(k:Int)+1=(k1:Int):=by omega
           have hw2:IntKind.i64.wrap ((k:Int)+1)=(k1:Int):=by rw [hw1];exact IntWalk.i64_in _ (by omega)
           have hw3:IntKind.i64.wrap (t.rep+1)=t.rep+1:=IntWalk.i64_in _ (by omega);have HK1:=Lib.hid hk1;clear hcl hcur htk hd ht p0 hm hk1 p1 hdd hd1;go_wp2
           go_quiet (fail)
           clear hw2 hw3;go_wp2_with (at_builtin;refine wpList_append_run rfl _ _ rfl w.heap.size _ vs rfl ((HO.out.drewN _).alloc _) ⟨wr.heap.size,0,none⟩ 1 rfl (.slice (some ⟨b,off+fr * 2,none⟩) (k1-fr) (c-fr)) ⟨_,_,_,rfl⟩ ?c1 ?c2 ?c3 ?_)
           case c1=>simp [Addr.add];exact cell_of_row _ _ 0 _ _ (0,0) (heap_alloc_new (World.drewN wr _) _)
           case c2=>omega
           case c3=>simp;omega
           · intro g cap w2 ho2 hg2;have HB2:Hid (Below w.heap.size w w2):=(((below_drewN HB.out _).alloc (by simp;omega) _).grown hg2 (by simp;omega) (fun g hg=>(HO.out.lt g hg).1));have HO2:=Lib.hid ho2;have HA2:Hid (∀ W,IsEnts W (.slice (some ⟨b,off,none⟩) n c) l→areE W (vs++[(.slice (some ⟨b,off+fr * 2,none⟩) (k1-fr) (c-fr):Value)]) (R++[(l.take k1).drop fr])):=Lib.hid (fun W hW=>areE_snoc (HP.out W hW) (HA.out W hW));obtain ⟨vs2,hvs2⟩:∃ vs2,vs++[(.slice (some ⟨b,off+fr * 2,none⟩) (k1-fr) (c-fr):Value)]=vs2:=⟨_,rfl⟩;have hvl:vs2.length=vs.length+1:=by rw [←hvs2];simp
             rw [hvs2] at HO2 HA2;rw [←hvl] at HO2 ⊢;clear ho2 hg2 hvs2;go_wp2;go_roundw
             case rel=>exact ⟨k1,k1,vs2,_,by omega,by first | rfl | go_num,by first | rfl | go_num,Nat.le_refl _,by have:=HK1.out;omega,HS.out,HO2.out,HA2.out,HB2.out⟩
             case measure=>have:=HK1.out;simp [intOf];omega
         · have hcl : cutA ((l.take k).drop fr) (l.drop k) = cutA ((l.take k1).drop fr) (l.drop k1) := by
             rw [hd,hd1,cutA_on hgp,hcur]
           have HS:Hid (R++cutA ((l.take k1).drop fr) (l.drop k1)=runsL l):=Lib.hid (show R++cutA ((l.take k1).drop fr) (l.drop k1)=runsL l by
             rw [←HEQ.out,hcl])
           have hgp':d.rep≤t.rep+1:=by omega
           have hw1:(k:Int)+1=(k1:Int):=by omega
           have hw2:IntKind.i64.wrap ((k:Int)+1)=(k1:Int):=by rw [hw1];exact IntWalk.i64_in _ (by omega)
           have hw3:IntKind.i64.wrap (t.rep+1)=t.rep+1:=IntWalk.i64_in _ (by omega);have HK1:=Lib.hid hk1;clear hcl hcur htk hd ht p0 hm hk1 p1 hdd hd1;go_wp2
           go_quiet (fail)
           clear hw2 hw3;go_wp2;go_roundw
           case rel=>exact ⟨k1,fr,vs,R,by omega,by first | rfl | go_num,rfl,by have:=HK1.out;omega,by have:=HK1.out;omega,HS.out,HO.out.drewN _,HA.out,below_drewN HB.out _⟩
           case measure=>have:=HK1.out;simp [intOf];omega
     · have hkn:k=n:=by omega
       have HRE:Hid (R=runsL l):=Lib.hid (show R=runsL l by
         rw [←HEQ.out,List.drop_eq_nil_of_le (show l.length≤k by have:=HN.out;omega)];have:∀ cur,cutA cur []=[]:=fun _=>rfl
         rw [this,List.append_nil])
       obtain rfl:=HRE.out;go_wp2;go_ret;exact ⟨_,vs,rfl,HO.out,HA.out,areE_len (HA.out w HV.out),HB.out⟩
end Go.Proofs.YtgfinhehgfbdgaaGreatDoor
namespace Go.Proofs.YtgfinhehgfbdgaaGreatDoor
open Go.RowKit
theorem step_append_ent (w:World) {ops:Array Oper} {o:Oper} {a:Act} {K:Act→World→Prop} {Q:Exit→Act→World→Prop} {E:Prop} (hgd:o.guard=none) (s x:Operand)
   (ho:o.op=.call { callee:=.builtin .append,args:=#[s,x],argTypes:=#[22,22] })
   (base:Nat) (v:Value) (l:List Ent) (hs:a.eval s=v) (hown:ownsE w base v l)
   (B c:Nat) (hx:a.eval x=.slice (some ⟨B,0,none⟩) 1 c) (t:Ent) (hcell:entBlk w B t)
   (hlen:l.length+1≤1000000) (hbase:base≤w.heap.size)
   (h:∀ g cap w',ownsE w' base (.slice (some ⟨g,0,none⟩) (l.length+1) cap) (l++[t])→w.grownBy w' v.ownBlock→(v.ownBlock=some g∨g=w.heap.size)→K (a.put o.dst (.slice (some ⟨g,0,none⟩) (l.length+1) cap)) w') :
   if Region.wanted o (yielded ops a.tmps)=true then Oper.wp Tryz.prog o a w K Q else E:=by
 obtain ⟨i0,hi,hz0,hz1,hz2⟩:=info_parts info_ent;refine step_append_lies w hgd s x 22 ho base 80 i0 (.agg #[.int .i64 0,.int .i64 0]) 2 16 Tryz.underlying22 hi hz0 hz1 hz2 rfl (by decide) v l.length (entsC l) hs hown ⟨B,0,none⟩ 1 c (entC t) hx rfl ?_ ?_ (by decide) (by unfold maxLen;omega) (by omega) hbase _ rfl ?_
 · intro j u hj;have hadd:(⟨B,0,none⟩:Addr).add j=⟨B,j,none⟩:=by unfold Addr.add;split <;> simp_all
   rw [hadd,cell_of_row _ _ _ _ _ _ hcell,←hj];unfold entC;simp
 · intro u hu;simp [entC] at hu;rcases hu with rfl | rfl <;> rfl
 · intro g cap w' h1 h2 h3 _;refine h g cap w' ?_ h2 h3;unfold ownsE;rw [List.length_append,entsC_app]
   simpa [entsC] using h1
theorem ownsR.stored {w:World} {base g n cap:Nat} {l:List Value} {d:Value} (h:ownsR w base (.slice (some ⟨g,0,none⟩) n cap) (l++[d])) (hn:n=l.length+1) (x:Value) :
   ownsR (w.setCell ⟨g,l.length,none⟩ x) base (.slice (some ⟨g,0,none⟩) n cap) (l++[x])∧w.grownBy (w.setCell ⟨g,l.length,none⟩ x) (some g):=by
 subst hn;unfold ownsR at h ⊢;rw [List.length_append] at h ⊢;have h2:=World.ownsRow.stored h l.length x;have e:(l++[d]).set l.length x=l++[x]:=by
   rw [List.set_append_right _ _ (Nat.le_refl _),Nat.sub_self];rfl
 rw [e] at h2;exact h2
theorem ownsR.last {w:World} {base g n cap:Nat} {l:List Value} {d:Value} (h:ownsR w base (.slice (some ⟨g,0,none⟩) n cap) (l++[d])) (hn:n=l.length+1) :
   w.cell? ⟨g,l.length,none⟩=some d∧w.frozen? ⟨g,l.length,none⟩=false∧base≤g∧g<w.heap.size:=by
 subst hn;have hlt:=h.lt g rfl;unfold ownsR at h;rw [List.length_append] at h;refine ⟨?_,World.ownsRow.frozenAt h _,hlt.1,hlt.2⟩;rw [World.ownsRow.cellAt h _ (by simp)];simp
end Go.Proofs.YtgfinhehgfbdgaaGreatDoor
namespace Go.Proofs.YtgfinhehgfbdgaaGreatDoor
open Go.RowKit
def numB (K N:Int):ByteArray:=if K=3 then ⟨(putL (zigN N).toNat).toArray⟩ else if K=4 then ⟨(putL N.toNat).toArray⟩ else ⟨#[]⟩
def valB (K:Int) (val:ByteArray):ByteArray:=if hasV K=true then spanB val else ⟨#[]⟩
def tailB (K:Int) (val:ByteArray) (N:Int):ByteArray:=numB K N++valB K val
def getN (K:Int) (l:List UInt8):Int×Nat×Nat:=if K=3 then (zagN (getL l).1,(getL l).2.1,(getL l).2.2) else if K=4 then (((intL l 1000).1:Int),(intL l 1000).2.1,(intL l 1000).2.2) else (0,0,0)
def getV (K:Int) (l:List UInt8):List UInt8×Nat×Nat:=if hasV K=true then getS l else ([],0,0)
theorem getN_le (K:Int) (l:List UInt8):(getN K l).2.1≤l.length∧(getN K l).2.1≤10:=by
 unfold getN;rcases getL_cases l with ⟨e,hg,he⟩ | ⟨n,k,hg,hn,hk1,hk2,hk3⟩
 · split
   · rw [hg];simp
   · split
     · rw [intL_bad hg he];simp
     · simp
 · split
   · rw [hg];simp;omega
   · split
     · by_cases hm:(1000:Int)<0∨(1000:Int)<n
       · rw [intL_range hg hm];simp
       · rw [intL_ok hg hm];simp;omega
     · simp
end Go.Proofs.YtgfinhehgfbdgaaGreatDoor
namespace Go.Proofs.YtgfinhehgfbdgaaGreatDoor
open Go.RowKit
set_option maxRecDepth 100000 in
theorem rspan_ok (s:ByteArray) (w:World) (hs:s.size≤2000) :
   Calls Tryz.prog 74 #[.string s] w fun r w'=>r=.returned (.tuple #[.string (spanB s),.int .i64 0])∧Below w.heap.size w w':=by
 have hl:=putL_le10 (n:=s.size) (by omega);have HP:Hid (spanB s=⟨(putL s.size).toArray⟩++s):=rfl;go_enter Tryz.func74,Tryz.ntmps74
 go_wp2_with (go_at_call 39;refine (rvary_any s.size _ (by omega)).mono ?_;rintro r w1 ⟨rfl,hb1⟩)
 go_ret2;exact ⟨by rw [HP.out];rfl,by assumption⟩
set_option maxRecDepth 100000 in
set_option maxHeartbeats 2000000 in
theorem runspan_any (s:ByteArray) (w:World) (hs:s.size≤140737488351232) :
   Calls Tryz.prog 92 #[.string s] w fun r w'=>r=.returned (spanR (getS s.data.toList))∧w=w':=by
 have hs2:s.size≤maxLen:=by unfold maxLen;omega
 rcases getL_cases s.data.toList with ⟨e,hg,he⟩ | ⟨n,k,hg,hn,hk1,hk2,hk3⟩
 · have HP : Hid (spanR (getS s.data.toList) = .tuple #[.string ⟨#[]⟩, .int .i64 0, .int .i64 e]) := by
     show spanR _=_
     rw [getS_bad hg he];rfl
   have HG:=Lib.hid hg;have hne:((e:Int) != 0)=true:=by simp;omega
   clear hg;rw [HP.out];go_enter Tryz.func92,Tryz.ntmps92
   go_wp2_with (go_at_call 84;refine (unvary_bad _ _ hs2 e HG.out).mono ?_;rintro r w' ⟨rfl,rfl⟩)
   go_ret3;exact ⟨rfl,rfl⟩
 · rw [←size_data] at hk3;by_cases h2:2000<n
   · have HP : Hid (spanR (getS s.data.toList) = .tuple #[.string ⟨#[]⟩, .int .i64 0, .int .i64 4]) := by
       show spanR _=_
       rw [getS_big hg h2];rfl
     have HG:=Lib.hid hg;clear hg;rw [HP.out];go_enter Tryz.func92,Tryz.ntmps92
     go_wp2_with (go_at_call 84;refine (unvary_ok _ _ hs2 n k HG.out).mono ?_;rintro r w' ⟨rfl,rfl⟩)
     go_ret3;exact ⟨rfl,rfl⟩
   · have h2':n≤2000:=by omega
     by_cases h3:s.size<k+n
     · have HP : Hid (spanR (getS s.data.toList) = .tuple #[.string ⟨#[]⟩, .int .i64 0, .int .i64 7]) := by
         show spanR _=_
         rw [getS_miss hg h2 (by rw [←size_data];exact h3)];rfl
       have HG:=Lib.hid hg;clear hg h2;rw [HP.out];go_enter Tryz.func92,Tryz.ntmps92
       go_wp2_with (go_at_call 84;refine (unvary_ok _ _ hs2 n k HG.out).mono ?_;rintro r w' ⟨rfl,rfl⟩)
       go_ret3;exact ⟨rfl,rfl⟩
     · have hx:s.extract k (k+n)=⟨((s.data.toList.drop k).take n).toArray⟩:=bs_ext (by rw [ext_data,List.drop_take,Nat.add_sub_cancel_left]);have HP:Hid (spanR (getS s.data.toList)=.tuple #[.string (s.extract k (k+n)),.int .i64 ((k:Int)+n),.int .i64 0]):=by
         show spanR _=_
         rw [getS_ok hg h2 (by rw [←size_data];exact h3),hx];rfl
       have HG:=Lib.hid hg;have h3':k+n≤s.size:=by omega
       clear hg h2 h3 hx;rw [HP.out];go_enter Tryz.func92,Tryz.ntmps92
       go_wp2_with (go_at_call 84;refine (unvary_ok _ _ hs2 n k HG.out).mono ?_;rintro r w' ⟨rfl,rfl⟩)
       go_ret3;exact ⟨rfl,rfl⟩
end Go.Proofs.YtgfinhehgfbdgaaGreatDoor
