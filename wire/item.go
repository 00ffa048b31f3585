package wire

import "quorate/api"

// EncodeItem makes an item's bytes.
func EncodeItem(it api.Item) ([]byte, api.Errno) {
	if !itemFits(it) {
		return nil, api.ErrPacket
	}
	b := []byte{byte(it.Kind)}
	if it.Kind == api.ItemData {
		return putData(b, it.Data), api.OK
	}
	return putCounts(b, it.Pos, it.Stable, it.Slot.Sender, it.Slot.Seq), api.OK
}

func itemFits(it api.Item) bool {
	switch it.Kind {
	case api.ItemData:
		return dataFits(it.Data) && it.Pos == 0 && it.Stable == 0 && it.Slot == api.Slot{}
	case api.ItemSlot:
		return within(it.Pos, 1, api.MaxCount) && within(it.Stable, 0, it.Pos-1) && slotFits(it.Slot) && dataZero(it.Data)
	}
	return false
}

func dataZero(d api.Data) bool {
	return d.Sender == 0 && d.Seq == 0 && d.Stable == 0 && len(d.Body) == 0
}

// DecodeItem reads an item's bytes.
func DecodeItem(b []byte) (it api.Item, e api.Errno) {
	defer func() {
		if x := recover(); x != nil {
			it, e = api.Item{}, reason(x)
		}
	}()
	r := openItem(b)
	it = r.item(int(b[0]))
	r.end()
	return it, api.OK
}

// openItem looks at an item's size and kind, and makes the reader of what follows.
func openItem(b []byte) *reader {
	switch {
	case len(b) > api.MaxItem:
		panic(api.ErrLong)
	case len(b) == 0:
		panic(api.ErrShort)
	case !within(int(b[0]), api.ItemData, api.ItemSlot):
		panic(api.ErrKind)
	}
	return &reader{text: b, at: 1}
}

func (r *reader) item(kind int) api.Item {
	it := api.Item{Kind: kind}
	if kind == api.ItemData {
		it.Data = r.data(api.Data{})
		return it
	}
	it.Pos = r.count(1, api.MaxCount)
	it.Stable = r.count(0, it.Pos-1)
	it.Slot = r.slot()
	return it
}
