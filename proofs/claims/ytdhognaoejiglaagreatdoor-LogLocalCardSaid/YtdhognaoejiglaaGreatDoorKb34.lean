import Derived.Test.YtdhognaoejiglaaGreatDoorKbq
import Derived.Test.YtdhognaoejiglaaGreatDoorKb31
import Derived.Test.YtdhognaoejiglaaGreatDoorKb33
namespace Go.Proofs.YtdhognaoejiglaaGreatDoor
open Lib (hid)
set_option maxRecDepth 100000
set_option maxHeartbeats 8000000
section
open Go.RowKit
theorem zv (v:Nat) (I T:ByteArray) (h:bi (80::84::UInt8.ofNat v::I.data.toList)=T.data.toList):ie ((⟨#[80,84]⟩:ByteArray)++⟨#[UInt8.ofNat v]⟩++I)=T:=by
 apply cX
 rw [tD,←h];simp
theorem sO (v:Nat) (I T:ByteArray) (w:World) (hv:v≤255) (hI:I.size≤1000000) (h:bi (80::84::UInt8.ofNat v::I.data.toList)=T.data.toList) :
 Calls Tryz.prog 92 #[.int .u8 (v:Int),.string I] w fun e w'=>e=.returned (.string T)∧Below w.heap.size w w':=by
 have hsl:=zv v I T h;obtain ⟨B,hB⟩:∃ B:ByteArray,B=⟨#[UInt8.ofNat v]⟩:=⟨_,rfl⟩;obtain ⟨A,hA⟩:∃ A:ByteArray,A=⟨#[80,84]⟩:=⟨_,rfl⟩;rw [←hA,←hB] at hsl;have hAz:A.size=2:=by rw [hA];rfl
 have hBz:B.size=1:=by rw [hB];rfl
 have HSL:=hid hsl;have ha1:¬ (9223372036854775807<A.size+B.size):=by omega
 have ha2:¬ (9223372036854775807<(A++B).size+I.size):=by rw [ByteArray.size_append];omega
 have ha3:¬ (9223372036854775807<A.size+B.size+I.size):=by omega
 have HSZ:Hid ((A++B++I).size≤140737488351232):=hid (by rw [ByteArray.size_append,ByteArray.size_append];omega);have hA2:(⟨#[80,84]⟩:ByteArray)=A:=hA.symm;have hcA:=cE v (v:Int) B rfl hB hv (w.alloc (.cells #[.int .u8 (v:Int)] 5)) w.heap.size (heap_alloc_new w _);have HBA:Hid (Below w.heap.size w (w.alloc (.cells #[.int .u8 (v:Int)] 5))):=hid ((Below.refl _ _).alloc (Nat.le_refl _) _);clear h hsl hA hB;go_enter Tryz.func92,Tryz.ntmps92
 rw [hA2];go_wp2_with fail
 refine (tE _ _ HSZ.out).mono ?_;rintro r w1 ⟨rfl,hb1⟩;have HB1:Hid (Below w.heap.size w w1):=hid (HBA.out.trans (hb1.mono HBA.out.size));clear hb1;go_wp2;go_ret;exact ⟨by rw [←HSL.out];rfl,HB1.out⟩
theorem gY (n:Nat) (N:ByteArray) (w:World) (h:n≤9223372036854775807) (hN:putL n=N.data.toList) :
 Calls Tryz.prog 90 #[.int .i64 (n:Int)] w fun e w'=>e=.returned (.string N)∧Below w.heap.size w w':=by
 have hu:IntKind.u64.wrap (n:Int)=(n:Int):=by rw [IntKind.wrap_u64];omega
 have HP:Hid ((⟨(putL (n:Int).toNat).toArray⟩:ByteArray)=N):=hid (by rw [Int.toNat_natCast,hN,bW]);clear hN;go_enter Tryz.func90,Tryz.ntmps90
 go_wp2_with fail
 refine (ls (n:Int) w (by omega) (by omega)).mono ?_;rintro r w1 ⟨rfl,hb1⟩;rw [HP.out];have HB1:=hid hb1;clear hb1;go_wp2;go_ret;exact ⟨rfl,HB1.out⟩
theorem yY (l:List Ent) (j:Nat) (t:Ent) (h:l[j]? = some t):cM (l.take (j+1))=cM (l.take j)++(putL t.rep.toNat++putL t.time.toNat):=by
 rw [List.take_add_one,h];simp [cM]
theorem qN (l:List Ent) (h:∀ e∈l,0≤e.rep∧e.rep≤200∧0≤e.time∧e.time≤1099511627776):(cM l).length≤20 * l.length:=by
 induction l with
 | nil=>simp [cM]
 | cons x l ih =>
  have hx:=h x List.mem_cons_self;rw [mW,List.length_append,List.length_append,List.length_cons];have h1:=aI (n:=x.rep.toNat) (by omega);have h2:=aI (n:=x.time.toNat) (by omega);have h3:=ih (fun e he=>h e (List.mem_cons_of_mem _ he));omega
theorem da (l:List UInt8):∃ B:ByteArray,l=B.data.toList:=⟨⟨l.toArray⟩,by simp⟩
theorem iy (A B:ByteArray):(A++B).data.toList=A.data.toList++B.data.toList:=by simp
theorem sZ (v:Value) (l:List Ent) (P:ByteArray) (w:World) (hv:ae w v l) (hl:l.length≤16) (hok:∀ e∈l,0≤e.rep∧e.rep≤200∧0≤e.time∧e.time≤1099511627776) (hP:bR l=P.data.toList) :
 Calls Tryz.prog 89 #[v] w fun e w'=>e=.returned (.string P)∧Below w.heap.size w w':=by
 obtain ⟨a,c,rfl,hf⟩:=hv.form;obtain ⟨n,hn⟩:∃ n,n=l.length:=⟨_,rfl⟩;rw [←hn] at hl ⊢;obtain ⟨N,hN⟩:=da (putL n);have HNZ:Hid (N.size≤10):=hid (by rw [aj,←hN];exact aI (by omega));have HN:=hid hN;have HLN:=hid hn;have HF:=hid hf;have HOK:=hid hok;have HP:=hid hP;have HNC:=hid (fun w'=>gY n N w' (by omega) hN);clear hv hN hn hf hok hP;go_enter Tryz.func89,Tryz.ntmps89
 go_wp2_with fail
 refine (HNC.out w).mono ?_;rintro r w1 ⟨rfl,hb1⟩;have HB1:=hid hb1;clear hb1;go_wp2
 go_loopw [3,10] (fun sv iv wr=>∃ (j:Nat) (S:ByteArray),j≤n∧iv=.int .i64 j∧sv=.string S∧S.data.toList=putL n++cM (l.take j)∧Below w.heap.size w wr) (fun _ iv _=>n-(intOf iv).toNat)
 case atStart=>exact ⟨0,N,Nat.zero_le _,rfl,rfl,by rw [←HN.out];simp [cM],HB1.out⟩
 case round =>
  obtain ⟨j,S,hj,rfl,rfl,hS,hb⟩:=hrel;have HS:=hid hS;have HB:=hid hb;clear hS hb;by_cases hlt:j<n
  ·obtain ⟨t, ht⟩ : ∃ t, l[j]? = some t := ⟨l[j]'(by have := HLN.out; omega), List.getElem?_eq_getElem _⟩;obtain ⟨b,off,rfl,hbw,p0,p1⟩:=HF.out j t ht;obtain ⟨rep,time⟩:=t;have hk:=HOK.out _ (List.mem_of_getElem? ht);have hsn:=yY l j _ ht;simp only at p0 p1 hk hsn
   obtain ⟨rn,rfl⟩:=Int.eq_ofNat_of_zero_le hk.1;obtain ⟨tn,rfl⟩:=Int.eq_ofNat_of_zero_le hk.2.2.1;rw [Int.toNat_natCast,Int.toNat_natCast] at hsn;obtain ⟨A,hA⟩:=da (putL rn);obtain ⟨C,hC⟩:=da (putL tn);have HAC:=hid (fun w'=>gY rn A w' (by omega) hA);have HCC:=hid (fun w'=>gY tn C w' (by omega) hC);have hAz:A.size≤10:=by rw [aj,←hA];exact aI (by omega)
   have hCz:C.size≤10:=by rw [aj,←hC];exact aI (by omega)
   have hSz:S.size≤1000:=by
    rw [aj,HS.out,List.length_append];have h1:=qN (l.take j) (fun e he=>HOK.out e (List.mem_of_mem_take he));rw [List.length_take] at h1;have h2:=aI (n:=n) (by omega);omega
   have HNX:Hid ((S++(A++C)).data.toList=putL n++cM (l.take (j+1))):=hid (by rw [iy,iy,HS.out,hsn,←hA,←hC,List.append_assoc]);have ha1:¬ (9223372036854775807<A.size+C.size):=by omega
   have ha2:¬ (9223372036854775807<S.size+(A++C).size):=by rw [ByteArray.size_append];omega
   have ha3:¬ (9223372036854775807<S.size+(A.size+C.size)):=by omega
   have q0:=(HB.out.cell (p:=⟨b,off+j * 2,none⟩) hbw).trans p0;have q1:=(HB.out.cell (p:=⟨b,off+j * 2+1,none⟩) hbw).trans p1;have HQ0:=hid p0;have HQ1:=hid p1;have HBW:=hid hbw;have hj0:(0:Int)≤(j:Int):=by omega
   have hj1:(j:Int)<(n:Int):=by omega
   clear p0 p1 ht hk hsn hA hC hAz hCz hSz;go_wp2;go_region_held3 (fun w'=>w'.cell? ⟨b,off+j * 2,none⟩=some (.int .i64 (rn:Int))∧w'.cell? ⟨b,off+j * 2+1,none⟩=some (.int .i64 (tn:Int))) (first | exact ⟨q0,q1⟩ | exact ⟨k0,k1⟩ | exact ⟨m0,m1⟩ | fail) (first
    | (go_at_call 90;((with_reducible refine (HAC.out wr.drew).mono ?_);rintro r w2 ⟨rfl,hb2⟩;have HB2:Hid (Below w.heap.size w w2):=hid (HB.out.trans ((ec hb2).mono HB.out.size));have k0:=(HB2.out.cell (p:=⟨b,off+j * 2,none⟩) HBW.out).trans HQ0.out;have k1:=(HB2.out.cell (p:=⟨b,off+j * 2+1,none⟩) HBW.out).trans HQ1.out;clear hb2))
    | (go_at_call 90;((with_reducible refine (HCC.out w2).mono ?_);rintro r w3 ⟨rfl,hb3⟩;have HB3:Hid (Below w.heap.size w w3):=hid (HB2.out.trans (hb3.mono HB2.out.size));have m0:=(HB3.out.cell (p:=⟨b,off+j * 2,none⟩) HBW.out).trans HQ0.out;have m1:=(HB3.out.cell (p:=⟨b,off+j * 2+1,none⟩) HBW.out).trans HQ1.out;clear hb3))
    | fail)
   clear q0 q1 k0 k1 m0 m1;go_wp2;go_roundw
   case rel=>exact ⟨j+1,S++(A++C),by omega,by go_num,rfl,HNX.out,HB3.out⟩
   case measure=>simp [intOf];omega
  ·obtain rfl:j=n:=by omega
   have HSP:Hid (S=P):=hid (by
    apply cX
    rw [HS.out,←HP.out,HLN.out,List.take_length]
    rfl)
   go_wp2;go_ret;exact ⟨by rw [HSP.out];rfl,HB.out⟩
end
section
open Go.RowKit
theorem mc {P:Program} {md:Region.Mode} {ops:Array Oper} {Q:Exit→Act→World→Prop} {S S':World→Prop} (hS:∀ w,S' w→S w) :
 ∀ (fuel:Nat) (listed:Array Bool) (a:Act) (w:World),wpAnyH P md ops Q S' fuel listed a w→wpAnyH P md ops Q S fuel listed a w
 | 0,_,_,_,h=>h
 | fuel+1,_,_,_,h=>⟨h.1,fun i hi=>wpOp_mono (fun _ _ h'=>⟨hS _ h'.1,mc hS fuel _ _ _ h'.2⟩) (h.2 i hi)⟩
theorem Ca (t r k:Nat) (key val:ByteArray) (n:Int) (L:ByteArray) (w:World) (hx:wE ⟨(t:Int),(r:Int),(k:Int),key,val,n⟩=0) (hL:oldW ⟨(t:Int),(r:Int),(k:Int),key,val,n⟩=L.data.toList) :
 Calls Tryz.prog 91 #[.agg #[.int .i64 (t:Int),.int .i64 (r:Int),.int .i64 (k:Int),.string key,.string val,.int .i64 n]] w fun e w'=>e=.returned (.tuple #[.string L,.nilIface])∧Below w.heap.size w w':=by
 have hf:=cL hx;obtain ⟨f1,f2,f3,f4,f5,f6,f7,f8,f9,f10⟩:=hf;simp only at f1 f2 f3 f4 f5 f6 f7 f8
 have HTL:Hid (un (lW (t:Int) (r:Int) (k:Int) key val n)=.tuple #[.string (bc (k:Int) val n),.nilIface]):=hid (by
  rw [oM hx];rfl)
 obtain ⟨TL,hTL⟩:∃ TL,bc (k:Int) val n=TL:=⟨_,rfl⟩;have htz:TL.size≤320:=by
  have h9:(bc (k:Int) val n).data.toList.length≤320:=f9;rw [hTL,←aj] at h9;exact h9
 obtain ⟨SP,hSP⟩:∃ SP,dK key=SP:=⟨_,rfl⟩;have hsz:SP.size≤60:=by rw [←hSP,lS];have:=aI (n:=key.size) (by omega);omega
 obtain ⟨B,hB⟩:∃ B:ByteArray,B=⟨#[UInt8.ofNat k]⟩:=⟨_,rfl⟩;have hBz:B.size=1:=by rw [hB];rfl
 obtain ⟨A,hA⟩:=da (putL t);obtain ⟨C,hC⟩:=da (putL r);have hAz:A.size≤10:=by rw [aj,←hA];exact aI (by omega)
 have hCz:C.size≤10:=by rw [aj,←hC];exact aI (by omega)
 have HRES:Hid (B++A++C++SP++TL=L):=hid (by
  apply cX
  rw [←hL];unfold oldW dj;simp only [iy]
  rw [hTL,←hA,←hC,←hSP,lR,hB,Int.toNat_natCast,Int.toNat_natCast,Int.toNat_natCast])
 have HAC:=hid (fun w'=>gY t A w' (by omega) hA);have HCC:=hid (fun w'=>gY r C w' (by omega) hC);have HBB:=hid hB;have HKZ:Hid (key.size≤2000):=hid (by omega);have HK1:Hid (key.size≤140737488351232):=hid (by omega);have HV1:Hid (val.size≤140737488351232):=hid (by omega);have HK255:Hid (k≤255):=hid (by omega);have hkw:IntKind.u8.wrap (k:Int)=(k:Int):=by rw [IntKind.wrap_u8];omega
 have s1:¬ (9223372036854775807<B.size+A.size):=by omega
 have s2:¬ (9223372036854775807<(B++A).size+C.size):=by rw [ByteArray.size_append];omega
 have s2':¬ (9223372036854775807<B.size+A.size+C.size):=by omega
 have s3:¬ (9223372036854775807<(B++A++C).size+SP.size):=by rw [ByteArray.size_append,ByteArray.size_append];omega
 have s3':¬ (9223372036854775807<B.size+A.size+C.size+SP.size):=by omega
 have s4:¬ (9223372036854775807<(B++A++C++SP).size+TL.size):=by rw [ByteArray.size_append,ByteArray.size_append,ByteArray.size_append];omega
 have s4':¬ (9223372036854775807<B.size+A.size+C.size+SP.size+TL.size):=by omega
 rw [hTL] at HTL;have HSP:=hid hSP;have HN0:=hid (ik w (t:Int) (r:Int) (k:Int) key val n 38);have HW0:Hid (Below w.heap.size w (w.alloc (.cells #[.int .i64 (t:Int),.int .i64 (r:Int),.int .i64 (k:Int),.string key,.string val,.int .i64 n] 38))):=hid ((Below.refl _ _).alloc (Nat.le_refl _) _);have HZ0:Hid (w.heap.size<(w.alloc (.cells #[.int .i64 (t:Int),.int .i64 (r:Int),.int .i64 (k:Int),.string key,.string val,.int .i64 n] 38)).heap.size):=hid (by simp);clear hx hL hTL htz hSP hsz hB hBz hA hC hAz hCz f1 f2 f3 f4 f5 f6 f7 f8 f9 f10;go_enter Tryz.func91,Tryz.ntmps91
 go_wp2_with fail
 generalize w.alloc (.cells #[.int .i64 (t:Int),.int .i64 (r:Int),.int .i64 (k:Int),.string key,.string val,.int .i64 n] 38)=W at HN0 HW0 HZ0 ⊢;obtain ⟨c0,c1,c2,c3,c4,c5⟩:=HN0.out;go_wp2_with fail
 refine (oI key W HKZ.out).mono ?_;rintro e w1 ⟨rfl,hb1⟩;rw [HSP.out];have HN1:=hid (HN0.out.below hb1 HZ0.out);have HB1:Hid (Below w.heap.size w w1):=hid (HW0.out.trans (hb1.mono HW0.out.size));have HZ1:Hid (w.heap.size<w1.heap.size):=hid (Nat.lt_of_lt_of_le HZ0.out hb1.size);clear hb1 c0 c1 c2 c3 c4 c5;obtain ⟨c0,c1,c2,c3,c4,c5⟩:=HN1.out;go_wp2_with fail
 refine (vZ (t:Int) (r:Int) (k:Int) key val n w1 HK1.out HV1.out).mono ?_;rintro e w2 ⟨rfl,hb2⟩;rw [HTL.out];have HN2:=hid (HN1.out.below hb2 HZ1.out);have HB2:Hid (Below w.heap.size w w2):=hid (HB1.out.trans (hb2.mono HB1.out.size));have HZ2:Hid (w.heap.size<w2.heap.size):=hid (Nat.lt_of_lt_of_le HZ1.out hb2.size);clear hb2 c0 c1 c2 c3 c4 c5;obtain ⟨c0,c1,c2,c3,c4,c5⟩:=HN2.out;have HSF:Hid (∀ w',Below w2.heap.size w2 w'→(w'.cell? ⟨w.heap.size,0,none⟩=some (.int .i64 (t:Int))∧w'.cell? ⟨w.heap.size,1,none⟩=some (.int .i64 (r:Int))∧w'.cell? ⟨w.heap.size,2,none⟩=some (.int .i64 (k:Int)))):=hid (fun w' hb=>by
  obtain ⟨h0,h1,h2,_⟩:=HN2.out.below hb HZ2.out;exact ⟨h0,h1,h2⟩)
 have HBW0:Hid (Below w2.heap.size w2 w2.drew):=hid (Below.refl _ _).drew;clear c0 c1 c2 c3 c4 c5;go_wp2;refine wp_region_held_drew (S:=fun w'=>w'.cell? ⟨w.heap.size,0,none⟩=some (.int .i64 (t:Int))∧w'.cell? ⟨w.heap.size,1,none⟩=some (.int .i64 (r:Int))∧w'.cell? ⟨w.heap.size,2,none⟩=some (.int .i64 (k:Int))) (by kernel_rfl) (HSF.out _ HBW0.out) (fun hHeld=>?_);generalize w2.drew=W0 at HBW0 hHeld ⊢;refine tkO 0 ?_;refine tkO 1 ?_;refine tkO 2 ?_;refine tkO 5 ?_;refine tkO 6 ?_;refine tkO 7 ?_;refine tkO 10 ?_;refine tkO 11 ?_;refine tkO 12 ?_;refine tkO 15 ?_;refine tkO 17 ?_;refine wpAnyH_ready (rs:=[3,8]) (by kernel_rfl) (by simp) ?_;refine AllReadyH.cons rfl (fun KK hKK=>?_) (AllReadyH.cons rfl (fun KK hKK=>?_) AllReadyH.nil)
 ·go_simp
  refine hKK.out _ _ (HSF.out _ (HBW0.out.alloc HBW0.out.size _)) (fun hHeldWA0=>sp ?_);clear hKK hHeld
  have HBWA0:Hid (Below w2.heap.size w2 (W0.alloc (.cells #[.int .u8 (k:Int)] 5))):=hid (HBW0.out.alloc HBW0.out.size _);have hrowWA0:(W0.alloc (.cells #[.int .u8 (k:Int)] 5)).heap[W0.heap.size]? = some (.cells #[.int .u8 (k:Int)] 5 (0,0)):=heap_alloc_new W0 _;have hltWA0:W0.heap.size<(W0.alloc (.cells #[.int .u8 (k:Int)] 5)).heap.size:=by simp
  generalize W0.alloc (.cells #[.int .u8 (k:Int)] 5)=WA0 at HBWA0 hrowWA0 hltWA0 hHeldWA0 ⊢;generalize W0.heap.size=bl at hrowWA0 hltWA0 ⊢;have HRWA0:Hid (∀ w',Below WA0.heap.size WA0 w'→(w'.cell? ⟨w.heap.size,0,none⟩=some (.int .i64 (t:Int))∧w'.cell? ⟨w.heap.size,1,none⟩=some (.int .i64 (r:Int))∧w'.cell? ⟨w.heap.size,2,none⟩=some (.int .i64 (k:Int)))∧w'.heap[bl]? = some (.cells #[.int .u8 (k:Int)] 5 (0,0))):=hid (fun w' hb=>⟨HSF.out _ (HBWA0.out.trans (hb.mono HBWA0.out.size)),(hb.block bl hltWA0).trans hrowWA0⟩);have HLWA0:Hid (Below WA0.heap.size WA0 WA0):=hid (Below.refl _ _);have hHeld2:=HRWA0.out _ HLWA0.out;clear hHeldWA0 hrowWA0 hltWA0;refine mc (S':=fun w'=>(w'.cell? ⟨w.heap.size,0,none⟩=some (.int .i64 (t:Int))∧w'.cell? ⟨w.heap.size,1,none⟩=some (.int .i64 (r:Int))∧w'.cell? ⟨w.heap.size,2,none⟩=some (.int .i64 (k:Int)))∧w'.heap[bl]? = some (.cells #[.int .u8 (k:Int)] 5 (0,0))) (fun _ h=>h.1) _ _ _ _ ?_;refine wpAnyH_take (i:=4) (v:=?v4a0) rfl (by kernel_rfl) (by kernel_rfl) (by kernel_rfl) (fun _ _ _ h=>h) (Or.inl ⟨by rfl,?h4a0⟩) (by assumption) ?r4a0
  case h4a0=>(intro W hSw;have hcv:=cE k (k:Int) B rfl HBB.out HK255.out W bl hSw.2;(try dsimp only at hSw);go_simp;all_goals (with_reducible rfl))
  try simp only [Act.put,List.getElem_toArray,List.getElem_cons_zero,List.getElem_cons_succ,List.setIfInBounds_toArray,List.set_cons_zero,List.set_cons_succ]
  refine wpAnyH_ready (rs:=[8]) (by kernel_rfl) (by simp) ?_;refine AllReadyH.cons rfl (fun KK hKK=>?_) AllReadyH.nil
  go_simp
  refine (HAC.out _).mono ?_;rintro r WB00 ⟨rfl,hbWB00⟩;have HBWB00:Hid (Below w2.heap.size w2 WB00):=hid (HBWA0.out.trans (hbWB00.mono HBWA0.out.size));have HLWB00:Hid (Below WA0.heap.size WA0 WB00):=hid (HLWA0.out.trans (hbWB00.mono HLWA0.out.size));refine hKK.out _ _ (HRWA0.out _ HLWB00.out) (fun hHeldWB00=>sp ?_);clear hKK hHeld2 hbWB00
  refine tkO 9 ?_;refine wpAnyH_ready (rs:=[13]) (by kernel_rfl) (by simp) ?_;refine AllReadyH.cons rfl (fun KK hKK=>?_) AllReadyH.nil
  go_simp
  refine (HCC.out _).mono ?_;rintro r WB01 ⟨rfl,hbWB01⟩;have HBWB01:Hid (Below w2.heap.size w2 WB01):=hid (HBWB00.out.trans (hbWB01.mono HBWB00.out.size));have HLWB01:Hid (Below WA0.heap.size WA0 WB01):=hid (HLWB00.out.trans (hbWB01.mono HLWB00.out.size));refine hKK.out _ _ (HRWA0.out _ HLWB01.out) (fun hHeldWB01=>sp ?_);clear hKK hHeldWB00 hbWB01
  refine tkO 14 ?_;refine tkO 16 ?_;refine tkO 18 ?_;refine tkO 19 ?_;refine tkO 20 ?_;refine wpAnyH_done (by kernel_rfl) ?_ _;go_wp2;go_ret2;exact ⟨by rw [←HRES.out];rfl,HB2.out.trans (HBWB01.out.mono HB2.out.size)⟩
 ·go_simp
  refine (HAC.out _).mono ?_;rintro r WC0 ⟨rfl,hbWC0⟩;have HBWC0:Hid (Below w2.heap.size w2 WC0):=hid (HBW0.out.trans (hbWC0.mono HBW0.out.size));refine hKK.out _ _ (HSF.out _ HBWC0.out) (fun hHeldWC0=>sp ?_);clear hKK hHeld hbWC0
  refine wpAnyH_ready (rs:=[3,13]) (by kernel_rfl) (by simp) ?_;refine AllReadyH.cons rfl (fun KK hKK=>?_) (AllReadyH.cons rfl (fun KK hKK=>?_) AllReadyH.nil)
  ·go_simp
   refine hKK.out _ _ (HSF.out _ (HBWC0.out.alloc HBWC0.out.size _)) (fun hHeldWA1=>sp ?_);clear hKK hHeldWC0
   have HBWA1:Hid (Below w2.heap.size w2 (WC0.alloc (.cells #[.int .u8 (k:Int)] 5))):=hid (HBWC0.out.alloc HBWC0.out.size _);have hrowWA1:(WC0.alloc (.cells #[.int .u8 (k:Int)] 5)).heap[WC0.heap.size]? = some (.cells #[.int .u8 (k:Int)] 5 (0,0)):=heap_alloc_new WC0 _;have hltWA1:WC0.heap.size<(WC0.alloc (.cells #[.int .u8 (k:Int)] 5)).heap.size:=by simp
   generalize WC0.alloc (.cells #[.int .u8 (k:Int)] 5)=WA1 at HBWA1 hrowWA1 hltWA1 hHeldWA1 ⊢;generalize WC0.heap.size=bl at hrowWA1 hltWA1 ⊢;have HRWA1:Hid (∀ w',Below WA1.heap.size WA1 w'→(w'.cell? ⟨w.heap.size,0,none⟩=some (.int .i64 (t:Int))∧w'.cell? ⟨w.heap.size,1,none⟩=some (.int .i64 (r:Int))∧w'.cell? ⟨w.heap.size,2,none⟩=some (.int .i64 (k:Int)))∧w'.heap[bl]? = some (.cells #[.int .u8 (k:Int)] 5 (0,0))):=hid (fun w' hb=>⟨HSF.out _ (HBWA1.out.trans (hb.mono HBWA1.out.size)),(hb.block bl hltWA1).trans hrowWA1⟩);have HLWA1:Hid (Below WA1.heap.size WA1 WA1):=hid (Below.refl _ _);have hHeld2:=HRWA1.out _ HLWA1.out;clear hHeldWA1 hrowWA1 hltWA1;refine mc (S':=fun w'=>(w'.cell? ⟨w.heap.size,0,none⟩=some (.int .i64 (t:Int))∧w'.cell? ⟨w.heap.size,1,none⟩=some (.int .i64 (r:Int))∧w'.cell? ⟨w.heap.size,2,none⟩=some (.int .i64 (k:Int)))∧w'.heap[bl]? = some (.cells #[.int .u8 (k:Int)] 5 (0,0))) (fun _ h=>h.1) _ _ _ _ ?_;refine wpAnyH_take (i:=4) (v:=?v4a1) rfl (by kernel_rfl) (by kernel_rfl) (by kernel_rfl) (fun _ _ _ h=>h) (Or.inl ⟨by rfl,?h4a1⟩) (by assumption) ?r4a1
   case h4a1=>(intro W hSw;have hcv:=cE k (k:Int) B rfl HBB.out HK255.out W bl hSw.2;(try dsimp only at hSw);go_simp;all_goals (with_reducible rfl))
   try simp only [Act.put,List.getElem_toArray,List.getElem_cons_zero,List.getElem_cons_succ,List.setIfInBounds_toArray,List.set_cons_zero,List.set_cons_succ]
   refine tkO 9 ?_;refine wpAnyH_ready (rs:=[13]) (by kernel_rfl) (by simp) ?_;refine AllReadyH.cons rfl (fun KK hKK=>?_) AllReadyH.nil
   go_simp
   refine (HCC.out _).mono ?_;rintro r WB11 ⟨rfl,hbWB11⟩;have HBWB11:Hid (Below w2.heap.size w2 WB11):=hid (HBWA1.out.trans (hbWB11.mono HBWA1.out.size));have HLWB11:Hid (Below WA1.heap.size WA1 WB11):=hid (HLWA1.out.trans (hbWB11.mono HLWA1.out.size));refine hKK.out _ _ (HRWA1.out _ HLWB11.out) (fun hHeldWB11=>sp ?_);clear hKK hHeld2 hbWB11
   refine tkO 14 ?_;refine tkO 16 ?_;refine tkO 18 ?_;refine tkO 19 ?_;refine tkO 20 ?_;refine wpAnyH_done (by kernel_rfl) ?_ _;go_wp2;go_ret2;exact ⟨by rw [←HRES.out];rfl,HB2.out.trans (HBWB11.out.mono HB2.out.size)⟩
  ·go_simp
   refine (HCC.out _).mono ?_;rintro r WC1 ⟨rfl,hbWC1⟩;have HBWC1:Hid (Below w2.heap.size w2 WC1):=hid (HBWC0.out.trans (hbWC1.mono HBWC0.out.size));refine hKK.out _ _ (HSF.out _ HBWC1.out) (fun hHeldWC1=>sp ?_);clear hKK hHeldWC0 hbWC1
   refine wpAnyH_ready (rs:=[3]) (by kernel_rfl) (by simp) ?_;refine AllReadyH.cons rfl (fun KK hKK=>?_) AllReadyH.nil
   ·go_simp
    refine hKK.out _ _ (HSF.out _ (HBWC1.out.alloc HBWC1.out.size _)) (fun hHeldWA2=>sp ?_);clear hKK hHeldWC1
    have HBWA2:Hid (Below w2.heap.size w2 (WC1.alloc (.cells #[.int .u8 (k:Int)] 5))):=hid (HBWC1.out.alloc HBWC1.out.size _);have hrowWA2:(WC1.alloc (.cells #[.int .u8 (k:Int)] 5)).heap[WC1.heap.size]? = some (.cells #[.int .u8 (k:Int)] 5 (0,0)):=heap_alloc_new WC1 _;have hltWA2:WC1.heap.size<(WC1.alloc (.cells #[.int .u8 (k:Int)] 5)).heap.size:=by simp
    generalize WC1.alloc (.cells #[.int .u8 (k:Int)] 5)=WA2 at HBWA2 hrowWA2 hltWA2 hHeldWA2 ⊢;generalize WC1.heap.size=bl at hrowWA2 hltWA2 ⊢;have HRWA2:Hid (∀ w',Below WA2.heap.size WA2 w'→(w'.cell? ⟨w.heap.size,0,none⟩=some (.int .i64 (t:Int))∧w'.cell? ⟨w.heap.size,1,none⟩=some (.int .i64 (r:Int))∧w'.cell? ⟨w.heap.size,2,none⟩=some (.int .i64 (k:Int)))∧w'.heap[bl]? = some (.cells #[.int .u8 (k:Int)] 5 (0,0))):=hid (fun w' hb=>⟨HSF.out _ (HBWA2.out.trans (hb.mono HBWA2.out.size)),(hb.block bl hltWA2).trans hrowWA2⟩);have HLWA2:Hid (Below WA2.heap.size WA2 WA2):=hid (Below.refl _ _);have hHeld2:=HRWA2.out _ HLWA2.out;clear hHeldWA2 hrowWA2 hltWA2;refine mc (S':=fun w'=>(w'.cell? ⟨w.heap.size,0,none⟩=some (.int .i64 (t:Int))∧w'.cell? ⟨w.heap.size,1,none⟩=some (.int .i64 (r:Int))∧w'.cell? ⟨w.heap.size,2,none⟩=some (.int .i64 (k:Int)))∧w'.heap[bl]? = some (.cells #[.int .u8 (k:Int)] 5 (0,0))) (fun _ h=>h.1) _ _ _ _ ?_;refine wpAnyH_take (i:=4) (v:=?v4a2) rfl (by kernel_rfl) (by kernel_rfl) (by kernel_rfl) (fun _ _ _ h=>h) (Or.inl ⟨by rfl,?h4a2⟩) (by assumption) ?r4a2
    case h4a2=>(intro W hSw;have hcv:=cE k (k:Int) B rfl HBB.out HK255.out W bl hSw.2;(try dsimp only at hSw);go_simp;all_goals (with_reducible rfl))
    try simp only [Act.put,List.getElem_toArray,List.getElem_cons_zero,List.getElem_cons_succ,List.setIfInBounds_toArray,List.set_cons_zero,List.set_cons_succ]
    refine tkO 9 ?_;refine tkO 14 ?_;refine tkO 16 ?_;refine tkO 18 ?_;refine tkO 19 ?_;refine tkO 20 ?_;refine wpAnyH_done (by kernel_rfl) ?_ _;go_wp2;go_ret2;exact ⟨by rw [←HRES.out];rfl,HB2.out.trans (HBWA2.out.mono HB2.out.size)⟩
end
section
open Go.RowKit Go.Maps
theorem BC (w:World):Calls Tryz.prog 55 #[] w fun e w'=>e=.returned (.pointer (some ⟨w.heap.size+1,0,none⟩))∧StoB w' w.heap.size (w.heap.size+2) (w.heap.size+1) 0 (fun _=>cel0)∧Below w.heap.size w w':=by
 have hmm:=@run_makeMap Tryz.prog;go_enter Tryz.func55,Tryz.ntmps55
 go_wp2;go_ret;have old:∀ (W:World) (o:Obj) (k:Nat),k<W.heap.size→(W.alloc o).heap[k]? = W.heap[k]? := fun W o k hk=>(MapKept.heap_alloc W o).2 k hk
 have s1:(w.alloc (.map #[] 0)).heap.size=w.heap.size+1:=by simp
 have hrow:((w.alloc (.map #[] 0)).alloc (.cells #[.map (some w.heap.size)] 123)).heap[w.heap.size+1]? = some (.cells #[.map (some w.heap.size)] 123 (0,0)):=by
  have:=(MapKept.heap_alloc (w.alloc (.map #[] 0)) (.cells #[.map (some w.heap.size)] 123)).1
  rwa [s1] at this
 refine ⟨rfl,⟨w.heap.size,_,_,⟨hrow,(World.ownsMap_made w _ _ _).alloc _,Eh,fun k hk=>(by cases hk),fun j k hj _ _=>(by cases hj),fun _=>Nat.le_refl _,fun _=>⟨Nat.zero_le _,fun s hs=>(by cases hs)⟩,fun _=>nT,(by omega),(by omega),(by simp),(by omega)⟩,by omega,Nat.le_refl _⟩,((Below.refl _ _).alloc (Nat.le_refl _) _).alloc (by simp) _⟩
theorem At {l:List Wr} (h:∀ x∈l,wrF x=0) (k:ByteArray) (hk:live (cx l k)=true):k.size≤140737488351232:=by
 by_cases e:∃ x∈l,x.key=k
 ·obtain ⟨x,hx,rfl⟩:=e;have:=(py (h x hx)).2.1;omega
 ·rw [ke (fun x hx e2=>e ⟨x,hx,e2⟩)] at hk;cases hk
end
section
open Go.RowKit Go.Maps
theorem BL (v:Value) (l:List Wr) (w:World) (h:az w v l) (hr:∀ x∈l,wrF x=0) (hl:l.length≤100000) :
 Calls Tryz.prog 32 #[v] w fun e w'=>∃ u,e=.returned (.tuple #[u,.nilIface])∧fN w' u (cg l)∧Below w.heap.size w w'∧∀ k,u.ownBlock=some k→w.heap.size≤k:=by
 obtain ⟨a,c,rfl,hf⟩:=h.form;have HI:=hid h;have HF:=hid hf;have HR:=hid hr;obtain ⟨n,hn⟩:∃ n,n=l.length:=⟨_,rfl⟩;rw [←hn] at hl ⊢;have HN:=hid hn;clear h hf hr hn;obtain ⟨P,hP⟩:∃ P,P=w.heap.size+1:=⟨_,rfl⟩;have HP:=hid hP;clear hP;go_enter Tryz.func32,Tryz.ntmps32
 go_wp2_with (go_at_call 55;refine (BC _).mono ?_;rintro r w1 ⟨rfl,hs1,hb1⟩;have HS1:Hid (StoB w1 w.heap.size (w.heap.size+2) P 0 (fun _=>cel0)):=hid (by rw [HP.out];exact hs1);have HB1:=hid hb1;clear hs1 hb1;rw [←HP.out])
 go_loopw [11] (fun i wr=>∃ k:Nat,k≤n∧i=.int .i64 k∧StoB wr w.heap.size (w.heap.size+2) P k (cx (l.take k))∧Below w.heap.size w wr) (fun i _=>n-(intOf i).toNat)
 case atStart=>exact ⟨0,by omega,rfl,by rw [List.take_zero,yg];exact HS1.out,HB1.out⟩
 case round =>
  obtain ⟨k,hk,rfl,hs,hb⟩:=hrel;have HS:=hid hs;have HB:=hid hb;clear hs hb HS1 HB1;by_cases hlt:k<n
  ·have b1:decide ((k:Int)<(n:Int))=true:=by simpa using hlt
   obtain ⟨x, hx⟩ : ∃ x, l[k]? = some x := ⟨l[k]'(by rw [← HN.out]; exact hlt), List.getElem?_eq_getElem _⟩;obtain ⟨b,off,rfl,hbl,c0,c1,c2,c3,c4,c5⟩:=HF.out k x hx;have HX:=hid hx;have hx0:wrF x=0:=HR.out x (List.mem_of_getElem? hx);obtain ⟨T,Re,K,key,val,N⟩:=x;simp only at c0 c1 c2 c3 c4 c5
   have HX0:=hid hx0;have HBL:=hid hbl;have d:∀ j u,w.cell? ⟨b,j,none⟩=some u→wr.cell? ⟨b,j,none⟩=some u:=fun j u hu=>(HB.out.cell (p:=⟨b,j,none⟩) HBL.out).trans hu
   have e0:=d _ _ c0;have e1:=d _ _ c1;have e2:=d _ _ c2;have e3:=d _ _ c3;have e4:=d _ _ c4;have e5:=d _ _ c5;have HSR:Hid (w.heap.size≤wr.heap.size):=hid HB.out.size;clear hx hx0 c0 c1 c2 c3 c4 c5 d hbl;go_wp2_with (go_at_call 56;obtain ⟨M,D,L,hs,hBP,hBM⟩:=HS.out.grown (bI (aW _ none) (.cells #[.int .i64 T,.int .i64 Re,.int .i64 K,.string key,.string val,.int .i64 N] 38));refine (yQ _ w.heap.size (w.heap.size+2) P M k D _ L T Re K key val N hs HX0.out (by omega) hBP hBM).mono ?_;rintro r w3 ⟨rfl,hs3,hb3,_⟩;have HS3:=hid hs3;have HB3:=hid hb3;clear hs hBP hBM hs3 hb3)
   go_roundw
   ·refine ⟨k+1,by omega,by simp,?_,?_⟩
    ·rw [List.take_add_one,HX.out];show StoB _ _ _ _ _ (cx (l.take k++[_]))
     rw [←Ed];exact HS3.out
    ·exact (HB.out.alloc HSR.out _).trans HB3.out
   ·simp [intOf];omega
  ·have b1:decide ((k:Int)<(n:Int))=false:=by simp;omega
   obtain rfl:k=n:=by omega
   have HT:Hid (StoB wr w.heap.size (w.heap.size+2) P k (cx l)):=hid (by have:=HS.out;rwa [List.take_of_length_le (by rw [HN.out];exact Nat.le_refl _)] at this);clear HS;go_wp2_with (go_at_call 57;obtain ⟨M,D,L,hs,hBP,hBM⟩:=HT.out;refine (yq _ (w.heap.size+2) P M k D _ L hs (by omega) (At HR.out)).mono ?_;rintro r w3 ⟨u,z,rfl,hz,hu,hb3,hfr⟩;have HFR:=hid hfr;have HU:Hid (fN w3 u (cg l)):=hid (by rw [←hz.is];exact hu);have HB3:=hid hb3;clear hs hBP hBM hz hu hb3 hfr)
   go_ret2;exact ⟨u,rfl,HU.out,HB.out.trans (HB3.out.mono HB.out.size),fun k e=>Nat.le_trans HB.out.size (HFR.out k e)⟩
end
