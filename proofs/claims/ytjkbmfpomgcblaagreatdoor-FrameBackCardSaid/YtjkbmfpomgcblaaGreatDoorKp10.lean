import Derived.Test.YtjkbmfpomgcblaaGreatDoorKp08
namespace Go.Proofs.YtjkbmfpomgcblaaGreatDoor
open Go.RowKit
set_option maxRecDepth 100000 in
set_option maxHeartbeats 2000000 in
theorem right_any (v:Value) (l:List Tok) (w:World) (hv:IsToks w v l) (hl:l.length≤9223372036854775807) (hz:∀ t∈l,t.own.size≤140737488351232) :
   Calls Tryz.prog 191 #[v] w (RightIs w (rightF l 0 0)):=by
 obtain ⟨a1,c1,rfl,f1⟩:=hv.form
 have F1:=Lib.hid f1
 have HZ:=Lib.hid hz
 obtain ⟨n,hn⟩:∃ n,n=l.length:=⟨_,rfl⟩
 rw [←hn] at hl ⊢
 have HN:=Lib.hid hn
 clear hv f1 hn hz
 go_enter Tryz.func191,Tryz.ntmps191
 go_wp2
 go_loopw [3,9] (fun s i wr=>∃ k a:Nat,k≤n∧i=.int .i64 k∧s=.int .i64 a∧a≤20000∧rightF l 0 0=rightF (l.drop k) k a∧Below w.heap.size w wr) (fun _ i _=>n - (intOf i).toNat)
 case atStart=>exact ⟨0,0,by omega,rfl,rfl,by omega,rfl,Below.refl _ _⟩
 case round =>
   obtain ⟨k,a,hk,rfl,rfl,ha,heq,hbel⟩:=hrel
   have HEQ:=Lib.hid heq
   have HB:=Lib.hid hbel
   clear heq hbel
   by_cases hlt:k < n
   · have hkl:k < l.length:=by have:=HN.out;omega
     obtain ⟨t,ht⟩:∃ t,l[k]? = some t:=⟨l[k],List.getElem?_eq_getElem hkl⟩
     obtain ⟨b1,o1,rfl,hb1,p0,p1,p2⟩:=F1.out k t ht
     have hd:l.drop k=t :: l.drop (k + 1):=by
       rw [List.drop_eq_getElem_cons hkl];congr 1
       rw [List.getElem?_eq_getElem hkl] at ht;exact Option.some.inj ht
     have hmem:t∈l:=List.mem_of_getElem? ht
     have HS:=Lib.hid (HZ.out t hmem)
     obtain ⟨own,back,size⟩:=t
     simp only at p0 p1 p2
     have q0:=(HB.out.cell (p:=⟨b1,o1 + k * 3,none⟩) hb1).trans p0
     have q1:=(HB.out.cell (p:=⟨b1,o1 + k * 3 + 1,none⟩) hb1).trans p1
     have q2:=(HB.out.cell (p:=⟨b1,o1 + k * 3 + 2,none⟩) hb1).trans p2
     have hzr:=HB.out.size
     obtain ⟨e,he⟩:∃ e,wrongN ⟨own,back,size⟩ a=e:=⟨_,rfl⟩
     have HE:=Lib.hid he
     have HD:=Lib.hid hd
     clear p0 p1 p2 ht hmem hd hkl he
     have hgap:wr.heap.size < (wr.alloc (.cells #[.string own,.int .i64 back,.int .i64 size] 224)).heap.size:=by simp
     by_cases h0:e=0
     · subst h0
       have hok:0≤size∧size≤1000:=by rcases wrongN_ok HE.out with ⟨_,h,_⟩ | ⟨_,h1,h2,_⟩ <;> simp only at * <;> omega
       have hle:=wrongN_le HE.out
       have HN2:Hid (rightF l 0 0=rightF (l.drop (k + 1)) (k + 1) (a + lenT ⟨own,back,size⟩)):=by
         have h:rightF l 0 0=rightF (l.drop (k + 1)) (k + 1) (a + lenT ⟨own,back,size⟩):=by rw [HEQ.out,HD.out,rightF_ok HE.out]
         exact h
       obtain ⟨m,hm⟩:∃ m,lenT ⟨own,back,size⟩=m:=⟨_,rfl⟩
       rw [hm] at hle HN2
       have HM:=Lib.hid hm
       clear hm HEQ
       go_wp2_with fail
       refine (wrong_any own back size a _ HS.out ha).mono ?_
       rintro r w1 ⟨rfl,hb1⟩
       rw [HE.out]
       have c0:w1.cell? ⟨wr.heap.size,0,none⟩=some (.string own):=(hb1.cell (by simp)).trans (by simp)
       have c1:w1.cell? ⟨wr.heap.size,1,none⟩=some (.int .i64 back):=(hb1.cell (by simp)).trans (by simp)
       have c2:w1.cell? ⟨wr.heap.size,2,none⟩=some (.int .i64 size):=(hb1.cell (by simp)).trans (by simp)
       have HB1:Hid (Below w.heap.size w w1):=(HB.out.alloc hzr _).trans (hb1.mono (by omega))
       clear hb1 q0 q1 q2
       go_wp2_with fail
       refine (length_any own back size _ HS.out hok.1 hok.2).mono ?_
       rintro r w2 ⟨rfl,hb2⟩
       rw [HM.out]
       have HB2:Hid (Below w.heap.size w w2):=HB1.out.trans (hb2.mono HB1.out.size)
       clear hb2 c0 c1 c2
       go_wp2
       go_roundw
       case rel=>exact ⟨k + 1,a + m,by omega,by go_num,by go_num,by omega,HN2.out,HB2.out⟩
       case measure=>simp [intOf];omega
     · have HN2 : Hid (rightF l 0 0 = (e, (k : Int))) := by
         have h:rightF l 0 0=(e,(k:Int)):=by rw [HEQ.out,HD.out,rightF_bad (by rw [HE.out];exact h0),HE.out]
         exact h
       have hne:((e:Int) != 0)=true:=by simp;omega
       have H0:=Lib.hid h0
       clear HEQ h0
       go_wp2_with fail
       refine (wrong_any own back size a _ HS.out ha).mono ?_
       rintro r w1 ⟨rfl,hb1⟩
       rw [HE.out]
       have HB1:Hid (Below w.heap.size w w1):=(HB.out.alloc hzr _).trans (hb1.mono (by omega))
       have hz1:=HB1.out.size
       clear hb1 q0 q1 q2
       go_wp2
       go_ret
       rw [HN2.out]
       exact ⟨_,rfl,atIs.new w1 e k H0.out,HB1.out.alloc hz1 _⟩
   · have HN2 : Hid (rightF l 0 0 = (0, -1)) := by
       have h:rightF l 0 0=(0,-1):=by rw [HEQ.out,List.drop_eq_nil_of_le (by have:=HN.out;omega)];rfl
       exact h
     go_wp2
     go_ret
     exact ⟨_,rfl,.inl ⟨HN2.out,rfl⟩,HB.out⟩
end Go.Proofs.YtjkbmfpomgcblaaGreatDoor
namespace Go.Proofs.YtjkbmfpomgcblaaGreatDoor
open Go.RowKit
def bigS:Int→List Wr→Int
 | x,[]=>x
 | x,t :: r=>bigS (IntKind.i64.wrap (x + IntKind.i64.wrap ((IntKind.i64.wrap ((t.key.size:Int) + (t.value.size:Int))).tdiv 8))) r
def bigV (lim:Int) (f h:List Ent) (l:List Wr):Bool:=decide (lim < bigS (IntKind.i64.wrap (IntKind.i64.wrap ((f.length:Int) + (h.length:Int)) + (l.length:Int))) l)
theorem bigS_drop {l:List Wr} {k:Nat} {t:Wr} (x:Int) (ht:l[k]? = some t):bigS x (l.drop k)=bigS (IntKind.i64.wrap (x + IntKind.i64.wrap ((IntKind.i64.wrap ((t.key.size:Int) + (t.value.size:Int))).tdiv 8))) (l.drop (k + 1)):=by
 obtain ⟨hk,h⟩:=List.getElem?_eq_some_iff.1 ht
 rw [List.drop_eq_getElem_cons hk,h];rfl
end Go.Proofs.YtjkbmfpomgcblaaGreatDoor
namespace Go.Proofs.YtjkbmfpomgcblaaGreatDoor
open Go.RowKit
def TU (l:List UInt8) (sz n bits f i:Nat) (w wr:World):Prop :=
 wr.heap[w.heap.size]? = some (.cells (rowC (turnN l bits f i) sz n) 5 (n,n + 1))∧Below w.heap.size w wr
theorem TU.cells {l:List UInt8} {sz n bits f i j:Nat} {w wr:World} (h:TU l sz n bits f i w wr) (hj:j < sz) (hn:sz≤n) :
   wr.cell? ⟨w.heap.size,j,none⟩=some (.int .u8 (turnN l bits f i j:Nat))∧wr.frozen? ⟨w.heap.size,j,none⟩=false:=by
 refine ⟨?_,?_⟩
 · rw [cell_of_row _ _ _ _ _ _ h.1,rowC_at _ _ _ _ (by omega) hj]
 · have:=h.1
   simp [World.frozen?,this]
   omega
theorem TU.drew {l:List UInt8} {sz n bits f i:Nat} {w wr:World} (h:TU l sz n bits f i w wr):TU l sz n bits f i w wr.drew:=⟨h.1,h.2.drew⟩
theorem TU.skip {l:List UInt8} {sz n bits f i:Nat} {w wr:World} (h:TU l sz n bits f i w wr) (hs:∀ j,j < sz→turnN l bits f (i + 1) j=turnN l bits f i j):TU l sz n bits f (i + 1) w wr:=by
 refine ⟨?_,h.2⟩
 rw [rowC_congr (fun j hj=>hs j hj)]
 exact h.1
theorem TU.put {l:List UInt8} {sz n bits f i:Nat} {w wr:World} (h:TU l sz n bits f i w wr) (hb:bits / 2 ^ i % 2=1) (hp:(f + i) / 8 < sz) (hn:sz≤n) {x:Int} (hx:x=(turnN l bits f i ((f + i) / 8) ^^^ 2 ^ ((f + i) % 8):Nat)) :
   TU l sz n bits f (i + 1) w (wr.setCell ⟨w.heap.size,(f + i) / 8,none⟩ (.int .u8 x)):=by
 refine ⟨?_,h.2.setCell (Nat.le_refl _) _⟩
 rw [setCell_eq_setRow _ _ _ _ _ _ _ h.1,rowC_set _ (turnN l bits f (i + 1)) sz n _ hp hn x (by rw [hx,turnN_here _ _ _ _ hb]) (fun j _ hne=>turnN_other _ _ _ _ _ hne)]
 exact setRow_heap _ _ _ _ _ _ h.1
theorem bit_true {bits i:Nat} (hb:bits < 4294967296) (h:bits / 2 ^ i % 2=1):(Go.bits .and .u32 ((bits:Int) / 2 ^ i) 1 == 1)=true:=by
 rw [shr_cast,and_one _ (Nat.lt_of_le_of_lt (Nat.div_le_self _ _) hb),h];rfl
theorem bit_false {bits i:Nat} (hb:bits < 4294967296) (h:¬ bits / 2 ^ i % 2=1):(Go.bits .and .u32 ((bits:Int) / 2 ^ i) 1 == 1)=false:=by
 rw [shr_cast,and_one _ (Nat.lt_of_le_of_lt (Nat.div_le_self _ _) hb)]
 have e:bits / 2 ^ i % 2=0:=by omega
 rw [e];rfl
theorem xor_bit (c r:Nat) (hc:c < 256) (hr:r < 8):Go.bits .xor .u8 (c:Int) (2 ^ r % 256)=(c ^^^ 2 ^ r:Nat):=by
 have h2:2 ^ r < 256:=Nat.pow_lt_pow_right (m:=r) (n:=8) (by decide) hr
 have e:(2:Int) ^ r % 256=((2 ^ r:Nat):Int):=by
   have e1:(2:Int) ^ r=((2 ^ r:Nat):Int):=by simp
   rw [e1]
   generalize 2 ^ r=m at *
   omega
 rw [e,u8_xor_nat _ _ hc h2]
theorem turned_conv {s:ByteArray} {n bits f cap:Nat} {w wr:World} (h:TU s.data.toList s.size n bits f 32 w wr) (hn:s.size≤n) :
   (convert 60 9 (.slice (some ⟨w.heap.size,0,none⟩) (turnL s.data.toList f bits).length cap)).run Tryz.prog wr=.ok (.string ⟨(turnL s.data.toList f bits).toArray⟩) wr:=by
 refine run_convert_bytes_back _ _ _ _ _ _ (turnL s.data.toList f bits) Tryz.underlying60 Tryz.underlying5 Tryz.underlying9 fun j hj=>?_
 have hadd:(⟨w.heap.size,0,none⟩:Addr).add j=⟨w.heap.size,j,none⟩:=by unfold Addr.add;split <;> simp_all
 have hj2:j < s.size:=by rw [turnL_len] at hj;simpa using hj
 rw [hadd,(h.cells hj2 hn).1,turnL_at]
set_option maxRecDepth 100000 in
set_option maxHeartbeats 1000000 in
theorem turned_any (s:ByteArray) (f bits:Nat) (w:World) (hs:s.size≤1000000) (hf:f≤10000000) (hb:bits < 4294967296) :
   Calls Tryz.prog 23 #[.string s,.int .i64 f,.int .u32 bits] w fun e w'=>e=.returned (.string ⟨(turnL s.data.toList f bits).toArray⟩)∧Below w.heap.size w w':=by
 have hcv:=run_bytes_of_string (P:=Tryz.prog) w 9 60 5 s Tryz.underlying9 Tryz.underlying60 Tryz.underlying5
 obtain ⟨cap,hcap⟩:∃ cap,cap=grownCap w s.size 0 5:=⟨_,rfl⟩
 rw [←hcap,bytesRow_rowC s cap,rowC_size,rowC_congr (v:=turnN s.data.toList bits f 0) (fun j _=>(turnN_zero s.data.toList bits f j).symm)] at hcv
 obtain ⟨n,hn⟩:∃ n,n=s.size + (cap - s.size):=⟨_,rfl⟩
 rw [←hn] at hcv
 have hn2:s.size≤n:=by omega
 clear hn hcap
 go_enter Tryz.func23,Tryz.ntmps23
 go_wp2
 clear hcv
 go_loopw [12] (fun c wr=>∃ i:Nat,i≤32∧c=.int .i64 i∧TU s.data.toList s.size n bits f i w wr) (fun c _=>32 - (intOf c).toNat)
 case atStart=>exact ⟨0,by omega,rfl,heap_alloc_new _ _,((Below.refl _ _).alloc (Nat.le_refl _) _).drew⟩
 case round =>
   obtain ⟨i,hi,rfl,hT⟩:=hrel
   have HT:=Lib.hid hT
   by_cases hlt:i < 32
   · by_cases hbit:bits / 2 ^ i % 2=1
     · have hbt:=bit_true hb hbit
       have HBit:=Lib.hid hbit
       clear hbit
       by_cases hin:(f + i) / 8 < s.size
       · have d1:decide (((f:Int) + (i:Int)) / 8 < (s.size:Int))=true:=decide_eq_true (by omega)
         obtain ⟨c1,c2⟩:=hT.cells hin hn2
         clear hT
         have i0:(0:Int)≤((f:Int) + (i:Int)) / 8:=by omega
         have i1:((f:Int) + (i:Int)) / 8 < (s.size:Int):=by omega
         have r0:(0:Int)≤((f:Int) + (i:Int)) % 8:=by omega
         have r1:((f:Int) + (i:Int)) % 8 < 8:=by omega
         go_wp2
         go_region
         go_wp2
         go_roundw
         case rel=>exact ⟨i + 1,by omega,by go_num,(HT.out.put HBit.out hin hn2 (xor_bit _ _ (turnN_lt _ _ _ _ _) (Nat.mod_lt _ (by decide)))).drew⟩
         case measure=>simp [intOf];omega
       · have d1:decide (((f:Int) + (i:Int)) / 8 < (s.size:Int))=false:=decide_eq_false (by omega)
         clear hT
         have i0:(0:Int)≤((f:Int) + (i:Int)) / 8:=by omega
         go_wp2
         go_roundw
         case rel=>exact ⟨i + 1,by omega,by go_num,HT.out.skip fun j hj=>turnN_other _ _ _ _ _ (by omega)⟩
         case measure=>simp [intOf];omega
     · have hbt:=bit_false hb hbit
       have HBit:=Lib.hid hbit
       clear hbit hT
       go_wp2
       go_roundw
       case rel=>exact ⟨i + 1,by omega,by go_num,HT.out.skip fun j _=>turnN_skip _ _ _ _ _ HBit.out⟩
       case measure=>simp [intOf];omega
   · obtain rfl:i=32:=by omega
     have hc:=turned_conv (cap:=cap) hT hn2
     have HB:=Lib.hid hT.2
     clear hT
     have hlen:(turnL s.data.toList f bits).length=s.size:=by rw [turnL_len];simp
     rw [hlen] at hc
     go_wp2
     go_ret
     exact ⟨rfl,HB.out⟩
end Go.Proofs.YtjkbmfpomgcblaaGreatDoor
namespace Go.Proofs.YtjkbmfpomgcblaaGreatDoor
theorem cI_val (x1 x2 y1 y2:Int):cI (x1,x2) (y1,y2)=if x1 < y1∨x1=y1∧x2 < y2 then -1 else if x1=y1∧x2=y2 then 0 else 1:=by
 unfold cI orF cmpF
 simp only
 repeat' split
 all_goals omega
theorem cI_neg (x1 x2 y1 y2:Int):cI (y1,y2) (x1,x2)=- cI (x1,x2) (y1,y2):=by
 rw [cI_val,cI_val]
 repeat' split
 all_goals omega
theorem cI_three (x1 x2 y1 y2:Int):cI (x1,x2) (y1,y2)=-1∨cI (x1,x2) (y1,y2)=0∨cI (x1,x2) (y1,y2)=1:=by
 rw [cI_val]
 repeat' split
 all_goals omega
theorem cI_trans {x1 x2 y1 y2 z1 z2:Int} (h1:cI (x1,x2) (y1,y2)=-1) (h2:cI (y1,y2) (z1,z2)=-1):cI (x1,x2) (z1,z2)=-1:=by
 rw [cI_val] at h1 h2 ⊢
 split at h1
 · split at h2
   · rw [if_pos (by omega)]
   · split at h2 <;> omega
 · split at h1 <;> omega
end Go.Proofs.YtjkbmfpomgcblaaGreatDoor
namespace Go.Proofs.YtjkbmfpomgcblaaGreatDoor
open Go.RowKit
set_option maxRecDepth 100000 in
set_option maxHeartbeats 2000000 in
theorem within_any (x1 x2:Int) (vf vh:Value) (f h:List Ent) (w:World) (hf:IsEnts w vf f) (hh:IsEnts w vh h) (hlf:f.length≤9223372036854775807) (hlh:h.length≤9223372036854775807) (b:Bool) (hb:wiF (x1,x2) f h=b) :
   Calls Tryz.prog 147 #[.agg #[.int .i64 x1,.int .i64 x2],vf,vh] w fun e w'=>e=.returned (.bool b)∧Below w.heap.size w w':=by
 subst hb
 obtain ⟨p,hp⟩:∃ p,ofF f x2=p:=⟨_,rfl⟩
 obtain ⟨q,hq⟩:∃ q,ofF h x2=q:=⟨_,rfl⟩
 have HP:=Lib.hid hp
 have HQ:=Lib.hid hq
 have HLF:=Lib.hid hlf
 have HLH:=Lib.hid hlh
 have HF:Hid (IsEnts (w.alloc (.cells #[.int .i64 x1,.int .i64 x2] 57)).drew vf f):=Lib.hid ((hf.alloc _).drewN 1)
 have HH:Hid (IsEnts (w.alloc (.cells #[.int .i64 x1,.int .i64 x2] 57)).drew vh h):=Lib.hid ((hh.alloc _).drewN 1)
 have c0:(w.alloc (.cells #[.int .i64 x1,.int .i64 x2] 57)).cell? ⟨w.heap.size,0,none⟩=some (.int .i64 x1)∧(w.alloc (.cells #[.int .i64 x1,.int .i64 x2] 57)).cell? ⟨w.heap.size,1,none⟩=some (.int .i64 x2):=by simp
 have hval:wiF (x1,x2) f h=(decide (p < x1) && decide (x1≤q)):=by unfold wiF;simp only;rw [hp,hq]
 have HB0:Hid (Below w.heap.size w (w.alloc (.cells #[.int .i64 x1,.int .i64 x2] 57)).drew):=Lib.hid ((Below.refl _ _).alloc (Nat.le_refl _) _).drew
 by_cases h1:p < x1
 · by_cases h2:x1≤q
   · have HW:Hid (wiF (x1,x2) f h=true):=Lib.hid (by rw [hval,decide_eq_true h1,decide_eq_true h2];rfl)
     clear hf hh hp hq hlf hlh hval
     rw [HW.out]
     go_enter Tryz.func147,Tryz.ntmps147
     go_wp2
     go_region_held3 (fun w'=>w'.cell? ⟨w.heap.size,0,none⟩=some (.int .i64 x1)∧w'.cell? ⟨w.heap.size,1,none⟩=some (.int .i64 x2)) (first | exact c0 | exact c2 | exact c3) (first
       | (go_at_call 196;((with_reducible refine (vofI_as vf f x2 p _ HF.out HLF.out HP.out).mono ?_);rintro r w2 ⟨rfl,hb2⟩;have c2:w2.cell? ⟨w.heap.size,0,none⟩=some (.int .i64 x1)∧w2.cell? ⟨w.heap.size,1,none⟩=some (.int .i64 x2):=⟨(hb2.cell (by simp)).trans c0.1,(hb2.cell (by simp)).trans c0.2⟩;have HB2:Hid (Below w.heap.size w w2):=(HB0.out.trans (hb2.mono (by simp)));have HH2:=Lib.hid (HH.out.below hb2);have HZ2:Hid (w.heap.size < w2.heap.size):=(Nat.lt_of_lt_of_le (by simp) hb2.size);clear hb2))
       | (go_at_call 196;((with_reducible refine (vofI_as vh h x2 q w2 HH2.out HLH.out HQ.out).mono ?_);rintro r w3 ⟨rfl,hb3⟩;have c3:w3.cell? ⟨w.heap.size,0,none⟩=some (.int .i64 x1)∧w3.cell? ⟨w.heap.size,1,none⟩=some (.int .i64 x2):=⟨(hb3.cell HZ2.out).trans c2.1,(hb3.cell HZ2.out).trans c2.2⟩;have HB3:Hid (Below w.heap.size w w3):=(HB2.out.trans (hb3.mono HB2.out.size));clear hb3)))
     go_wp2
     go_ret
     exact ⟨rfl,HB3.out⟩
   · have HW:Hid (wiF (x1,x2) f h=false):=Lib.hid (by rw [hval,decide_eq_true h1,decide_eq_false h2];rfl)
     have d7:decide (x1≤q)=false:=decide_eq_false h2
     clear hf hh hp hq hlf hlh hval h2
     rw [HW.out]
     go_enter Tryz.func147,Tryz.ntmps147
     go_wp2
     go_region_held3 (fun w'=>w'.cell? ⟨w.heap.size,0,none⟩=some (.int .i64 x1)∧w'.cell? ⟨w.heap.size,1,none⟩=some (.int .i64 x2)) (first | exact c0 | exact c2 | exact c3) (first
       | (go_at_call 196;((with_reducible refine (vofI_as vf f x2 p _ HF.out HLF.out HP.out).mono ?_);rintro r w2 ⟨rfl,hb2⟩;have c2:w2.cell? ⟨w.heap.size,0,none⟩=some (.int .i64 x1)∧w2.cell? ⟨w.heap.size,1,none⟩=some (.int .i64 x2):=⟨(hb2.cell (by simp)).trans c0.1,(hb2.cell (by simp)).trans c0.2⟩;have HB2:Hid (Below w.heap.size w w2):=(HB0.out.trans (hb2.mono (by simp)));have HH2:=Lib.hid (HH.out.below hb2);have HZ2:Hid (w.heap.size < w2.heap.size):=(Nat.lt_of_lt_of_le (by simp) hb2.size);clear hb2))
       | (go_at_call 196;((with_reducible refine (vofI_as vh h x2 q w2 HH2.out HLH.out HQ.out).mono ?_);rintro r w3 ⟨rfl,hb3⟩;have c3:w3.cell? ⟨w.heap.size,0,none⟩=some (.int .i64 x1)∧w3.cell? ⟨w.heap.size,1,none⟩=some (.int .i64 x2):=⟨(hb3.cell HZ2.out).trans c2.1,(hb3.cell HZ2.out).trans c2.2⟩;have HB3:Hid (Below w.heap.size w w3):=(HB2.out.trans (hb3.mono HB2.out.size));clear hb3)))
     go_wp2
     go_ret
     exact ⟨rfl,HB3.out⟩
 · have HW:Hid (wiF (x1,x2) f h=false):=Lib.hid (by rw [hval,decide_eq_false h1];rfl)
   have d6:decide (p < x1)=false:=decide_eq_false h1
   clear hf hh hp hq hlf hlh hval h1
   rw [HW.out]
   go_enter Tryz.func147,Tryz.ntmps147
   go_wp2
   refine wp_region_held_drew (S:=fun w'=>w'.cell? ⟨w.heap.size,0,none⟩=some (.int .i64 x1)∧w'.cell? ⟨w.heap.size,1,none⟩=some (.int .i64 x2)) (by kernel_rfl) c0 (fun hHeld=>?_)
   refine wpAnyH_take (i:=0) (v:=?v0) rfl (by kernel_rfl) (by kernel_rfl) (by kernel_rfl) (fun _ _ _ h=>h) (Or.inl ⟨by rfl,?h0⟩) (by assumption) ?r0
   case h0=>(intro W hSw;(try dsimp only at hSw);go_simp;all_goals (with_reducible rfl))
   try simp only [Act.put,List.getElem_toArray,List.getElem_cons_zero,List.setIfInBounds_toArray,List.set_cons_zero,List.set_cons_succ]
   refine wpAnyH_take (i:=1) (v:=?v1) rfl (by kernel_rfl) (by kernel_rfl) (by kernel_rfl) (fun _ _ _ h=>h) (Or.inl ⟨by rfl,?h1⟩) (by assumption) ?r1
   case h1=>(intro W hSw;(try dsimp only at hSw);go_simp;all_goals (with_reducible rfl))
   try simp only [Act.put,List.getElem_toArray,List.getElem_cons_zero,List.getElem_cons_succ,List.setIfInBounds_toArray,List.set_cons_zero,List.set_cons_succ]
   refine wpAnyH_take (i:=2) (v:=?v2) rfl (by kernel_rfl) (by kernel_rfl) (by kernel_rfl) (fun _ _ _ h=>h) (Or.inl ⟨by rfl,?h2⟩) (by assumption) ?r2
   case h2=>(intro W hSw;(try dsimp only at hSw);go_simp;all_goals (with_reducible rfl))
   try simp only [Act.put,List.getElem_toArray,List.getElem_cons_zero,List.getElem_cons_succ,List.setIfInBounds_toArray,List.set_cons_zero,List.set_cons_succ]
   refine wpAnyH_take (i:=3) (v:=?v3) rfl (by kernel_rfl) (by kernel_rfl) (by kernel_rfl) (fun _ _ _ h=>h) (Or.inl ⟨by rfl,?h3⟩) (by assumption) ?r3
   case h3=>(intro W hSw;(try dsimp only at hSw);go_simp;all_goals (with_reducible rfl))
   try simp only [Act.put,List.getElem_toArray,List.getElem_cons_zero,List.getElem_cons_succ,List.setIfInBounds_toArray,List.set_cons_zero,List.set_cons_succ]
   refine wpAnyH_take (i:=4) (v:=?v4) rfl (by kernel_rfl) (by kernel_rfl) (by kernel_rfl) (fun _ _ _ h=>h) (Or.inl ⟨by rfl,?h4⟩) (by assumption) ?r4
   case h4=>(intro W hSw;(try dsimp only at hSw);go_simp;all_goals (with_reducible rfl))
   try simp only [Act.put,List.getElem_toArray,List.getElem_cons_zero,List.getElem_cons_succ,List.setIfInBounds_toArray,List.set_cons_zero,List.set_cons_succ]
   refine wpAnyH_ready (rs:=[5]) (by kernel_rfl) (by simp) ?_
   refine AllReadyH.cons rfl (fun K hK=>?_) AllReadyH.nil
   go_simp
   refine (vofI_as vf f x2 p _ HF.out HLF.out HP.out).mono ?_
   rintro r w2 ⟨rfl,hb2⟩
   have c2:w2.cell? ⟨w.heap.size,0,none⟩=some (.int .i64 x1)∧w2.cell? ⟨w.heap.size,1,none⟩=some (.int .i64 x2):=⟨(hb2.cell (by simp)).trans c0.1,(hb2.cell (by simp)).trans c0.2⟩
   have HB2:Hid (Below w.heap.size w w2):=HB0.out.trans (hb2.mono (by simp))
   clear hb2
   refine hK.out _ _ c2 (fun hHeld2=>?_)
   clear hK hHeld
   try simp only [Act.put,List.getElem_toArray,List.getElem_cons_zero,List.getElem_cons_succ,List.setIfInBounds_toArray,List.set_cons_zero,List.set_cons_succ]
   refine wpAnyH_take (i:=6) (v:=?v6) rfl (by kernel_rfl) (by kernel_rfl) (by kernel_rfl) (fun _ _ _ h=>h) (Or.inl ⟨by rfl,?h6⟩) (by assumption) ?r6
   case h6=>(intro W hSw;(try dsimp only at hSw);go_simp;all_goals (with_reducible rfl))
   try simp only [Act.put,List.getElem_toArray,List.getElem_cons_zero,List.getElem_cons_succ,List.setIfInBounds_toArray,List.set_cons_zero,List.set_cons_succ]
   refine wpAnyH_take (i:=7) (v:=?v7) rfl (by kernel_rfl) (by kernel_rfl) (by kernel_rfl) (fun _ _ _ h=>h) (Or.inl ⟨by rfl,?h7⟩) (by assumption) ?r7
   case h7=>(intro W hSw;(try dsimp only at hSw);go_simp;all_goals (with_reducible rfl))
   try simp only [Act.put,List.getElem_toArray,List.getElem_cons_zero,List.getElem_cons_succ,List.setIfInBounds_toArray,List.set_cons_zero,List.set_cons_succ]
   refine wpAnyH_take (i:=8) (v:=undef) rfl (by kernel_rfl) (by kernel_rfl) (by kernel_rfl) (fun _ _ _ h=>h) (Or.inr ⟨by rfl,rfl⟩) (by assumption) ?_
   try simp only [Act.put,List.getElem_toArray,List.getElem_cons_zero,List.getElem_cons_succ,List.setIfInBounds_toArray,List.set_cons_zero,List.set_cons_succ]
   refine wpAnyH_take (i:=10) (v:=undef) rfl (by kernel_rfl) (by kernel_rfl) (by kernel_rfl) (fun _ _ _ h=>h) (Or.inr ⟨by rfl,rfl⟩) (by assumption) ?_
   try simp only [Act.put,List.getElem_toArray,List.getElem_cons_zero,List.getElem_cons_succ,List.setIfInBounds_toArray,List.set_cons_zero,List.set_cons_succ]
   refine wpAnyH_take (i:=11) (v:=undef) rfl (by kernel_rfl) (by kernel_rfl) (by kernel_rfl) (fun _ _ _ h=>h) (Or.inr ⟨by rfl,rfl⟩) (by assumption) ?_
   try simp only [Act.put,List.getElem_toArray,List.getElem_cons_zero,List.getElem_cons_succ,List.setIfInBounds_toArray,List.set_cons_zero,List.set_cons_succ]
   refine wpAnyH_take (i:=9) (v:=undef) rfl (by kernel_rfl) (by kernel_rfl) (by kernel_rfl) (fun _ _ _ h=>h) (Or.inr ⟨by rfl,rfl⟩) (by assumption) ?_
   try simp only [Act.put,List.getElem_toArray,List.getElem_cons_zero,List.getElem_cons_succ,List.setIfInBounds_toArray,List.set_cons_zero,List.set_cons_succ]
   refine wpAnyH_take (i:=12) (v:=undef) rfl (by kernel_rfl) (by kernel_rfl) (by kernel_rfl) (fun _ _ _ h=>h) (Or.inr ⟨by rfl,rfl⟩) (by assumption) ?_
   try simp only [Act.put,List.getElem_toArray,List.getElem_cons_zero,List.getElem_cons_succ,List.setIfInBounds_toArray,List.set_cons_zero,List.set_cons_succ]
   refine wpAnyH_take (i:=13) (v:=undef) rfl (by kernel_rfl) (by kernel_rfl) (by kernel_rfl) (fun _ _ _ h=>h) (Or.inr ⟨by rfl,rfl⟩) (by assumption) ?_
   try simp only [Act.put,List.getElem_toArray,List.getElem_cons_zero,List.getElem_cons_succ,List.setIfInBounds_toArray,List.set_cons_zero,List.set_cons_succ]
   refine wpAnyH_take (i:=14) (v:=undef) rfl (by kernel_rfl) (by kernel_rfl) (by kernel_rfl) (fun _ _ _ h=>h) (Or.inr ⟨by rfl,rfl⟩) (by assumption) ?_
   try simp only [Act.put,List.getElem_toArray,List.getElem_cons_zero,List.getElem_cons_succ,List.setIfInBounds_toArray,List.set_cons_zero,List.set_cons_succ]
   refine wpAnyH_take (i:=15) (v:=?v15) rfl (by kernel_rfl) (by kernel_rfl) (by kernel_rfl) (fun _ _ _ h=>h) (Or.inl ⟨by rfl,?h15⟩) (by assumption) ?r15
   case h15=>(intro W hSw;(try dsimp only at hSw);go_simp;all_goals (with_reducible rfl))
   try simp only [Act.put,List.getElem_toArray,List.getElem_cons_zero,List.getElem_cons_succ,List.setIfInBounds_toArray,List.set_cons_zero,List.set_cons_succ]
   refine wpAnyH_take (i:=16) (v:=?v16) rfl (by kernel_rfl) (by kernel_rfl) (by kernel_rfl) (fun _ _ _ h=>h) (Or.inl ⟨by rfl,?h16⟩) (by assumption) ?r16
   case h16=>(intro W hSw;(try dsimp only at hSw);go_simp;all_goals (with_reducible rfl))
   try simp only [Act.put,List.getElem_toArray,List.getElem_cons_zero,List.getElem_cons_succ,List.setIfInBounds_toArray,List.set_cons_zero,List.set_cons_succ]
   refine wpAnyH_done (by kernel_rfl) ?_ _
   go_wp2
   go_ret
   exact ⟨rfl,HB2.out⟩
end Go.Proofs.YtjkbmfpomgcblaaGreatDoor
namespace Go.Proofs.YtjkbmfpomgcblaaGreatDoor
open Go.RowKit
def errC (e:Nat):Value:=if e=0 then .nilIface else .iface 44 (.int .i64 e)
def openV (r:List UInt8×Nat):Value:=.tuple #[.string ⟨r.1.toArray⟩,errC r.2]
theorem ext_list (s:ByteArray) (a b:Nat):(s.extract a b).data.toList=(s.data.toList.drop a).take (b - a):=by
 rw [ByteArray.data_extract,Array.toList_extract]
theorem undrew {w w':World} (h:Below w.drew.heap.size w.drew w'):Below w.heap.size w w':=((Below.refl _ _).drew).trans h
theorem take_bytes (s:ByteArray) (k:Nat):(⟨(s.data.toList.take k).toArray⟩:ByteArray)=s.extract 0 k:=by
 apply bytes_ext
 rw [ext_list,List.drop_zero,Nat.sub_zero]
theorem open_test (s:ByteArray) (k:Nat) (hk:s.size=k + 4):(s.extract k s.size).toList=s.data.toList.drop (s.data.toList.length - 4)∧s.data.toList.length - 4=k∧¬ s.data.toList.length < 4:=by
 have hl:s.data.toList.length=k + 4:=by simpa using hk
 refine ⟨?_,by omega,by omega⟩
 rw [toL,ext_list,hl,show k + 4 - 4=k by omega]
 apply List.take_of_length_le
 rw [List.length_drop]
 omega
set_option maxRecDepth 100000 in
set_option maxHeartbeats 1000000 in
theorem open_any (s:ByteArray) (w:World) (hs:s.size≤140737488351232) :
   Calls Tryz.prog 95 #[.string s] w fun e w'=>e=.returned (openV (openL s.data.toList))∧Below w.heap.size w w':=by
 by_cases h4:s.size < 4
 · have h:openL s.data.toList=([],7):=by unfold openL;rw [if_pos (by simpa using h4)]
   rw [h]
   go_enter Tryz.func95,Tryz.ntmps95
   go_wp2
   go_ret2
   exact ⟨rfl,Below.refl _ _⟩
 · obtain ⟨k,hk⟩:∃ k,s.size=k + 4:=⟨s.size - 4,by omega⟩
   have e1:(s.size:Int) - 4=(k:Int):=by omega
   have e2:(0:Int)≤(k:Int):=by omega
   have e3:(k:Int)≤(s.size:Int):=by omega
   have hk2:k≤s.size:=by omega
   have HZ:Hid ((s.extract 0 k).size≤140737488351232):=by
     have h:(s.extract 0 k).size≤140737488351232:=by simp;omega
     exact h
   obtain ⟨t1,t2,t3⟩:=open_test s k hk
   by_cases hq:(s.extract k s.size).toList=tail4 (sum (s.data.toList.take k))
   · have HO : Hid (openV (openL s.data.toList) = .tuple #[.string (s.extract 0 k), .nilIface]) := by
       have h:openL s.data.toList=(s.data.toList.take k,0):=by
         unfold openL
         rw [if_neg t3,if_pos (by rw [←t1,hq,t2]),t2]
       show openV _=_
       rw [h]
       unfold openV errC
       rw [if_pos rfl,take_bytes]
     have hb:((s.extract k s.size).toList == tail4 (sum (s.data.toList.take k)))=true:=beq_iff_eq.2 hq
     clear hq t1 t2 t3 hk
     go_enter Tryz.func95,Tryz.ntmps95
     go_wp2
     go_region_held3 (fun w'=>True) (trivial) (first | (go_at_call 60;refine (tail_any _ _ (by unfold maxLen;simp;omega)).mono ?_;rintro r w1 ⟨rfl,hb1⟩;have HB:=Lib.hid (undrew hb1);clear hb1))
     go_wp2_with fail
     refine (clone_s _ _ HZ.out).mono ?_
     rintro r w2 ⟨rfl,hb2⟩
     have HB2:Hid (Below w.heap.size w w2):=HB.out.trans (hb2.mono HB.out.size)
     clear hb2
     go_wp2
     go_ret2
     exact ⟨by rw [HO.out];rfl,HB2.out⟩
   · have HO : Hid (openV (openL s.data.toList) = .tuple #[.string ⟨#[]⟩, .iface 44 (.int .i64 15)]) := by
       have h:openL s.data.toList=([],15):=by
         unfold openL
         rw [if_neg t3,if_neg (by rw [←t1,t2];exact hq)]
       show openV _=_
       rw [h]
       rfl
     have hb:((s.extract k s.size).toList == tail4 (sum (s.data.toList.take k)))=false:=beq_eq_false_iff_ne.2 hq
     clear hq t1 t2 t3 hk
     go_enter Tryz.func95,Tryz.ntmps95
     go_wp2
     go_region_held3 (fun w'=>True) (trivial) (first | (go_at_call 60;refine (tail_any _ _ (by unfold maxLen;simp;omega)).mono ?_;rintro r w1 ⟨rfl,hb1⟩;have HB:=Lib.hid (undrew hb1);clear hb1))
     go_wp2
     go_ret2
     exact ⟨by rw [HO.out];rfl,HB.out⟩
end Go.Proofs.YtjkbmfpomgcblaaGreatDoor
